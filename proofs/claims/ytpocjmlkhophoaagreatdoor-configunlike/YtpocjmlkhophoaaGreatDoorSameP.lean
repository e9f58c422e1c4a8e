/- Are two configurations alike, field by field: as plain values. -/
import Derived.Test.YtpocjmlkhophoaaGreatDoorCfg
namespace Go.Proofs.YtpocjmlkhophoaaGreatDoor
open Go.RowKit Go.Extern.Stop Go.Stop Go.Extern

def eqL {α : Type} (f : α → α → Bool) : List α → List α → Bool
  | [], [] => true
  | x :: l, y :: m => f x y && eqL f l m
  | _, _ => false
theorem eqL_iff {α : Type} (f : α → α → Bool) (hf : ∀ x y, f x y = true ↔ x = y) : ∀ l m, eqL f l m = true ↔ l = m
  | [], [] => by simp [eqL]
  | x :: l, y :: m => by simp [eqL, hf, eqL_iff f hf l m]
  | [], y :: m => by simp [eqL]
  | x :: l, [] => by simp [eqL]
/-- Lists that are alike up to i, and not there. -/
theorem eqL_ne {α : Type} (f : α → α → Bool) : ∀ (l m : List α) (i : Nat) (h1 : i < l.length) (h2 : i < m.length), f l[i] m[i] = false → eqL f l m = false
  | x :: l, y :: m, 0, _, _, h => by
    simp at h
    simp [eqL, h]
  | x :: l, y :: m, i + 1, h1, h2, h => by
    simp at h1 h2 h
    simp [eqL, eqL_ne f l m i h1 h2 h]
  | [], _, i, h1, _, _ => by simp at h1
  | _ :: _, [], i, _, h2, _ => by simp at h2
theorem eqL_len {α : Type} (f : α → α → Bool) : ∀ (l m : List α), l.length ≠ m.length → eqL f l m = false
  | [], [], h => by simp at h
  | x :: l, y :: m, h => by
    simp at h
    simp [eqL, eqL_len f l m (by omega)]
  | [], y :: m, _ => rfl
  | x :: l, [], _ => rfl
theorem eqL_all {α : Type} (f : α → α → Bool) : ∀ (l m : List α), l.length = m.length → (∀ i (h1 : i < l.length) (h2 : i < m.length), f l[i] m[i] = true) → eqL f l m = true
  | [], [], _, _ => rfl
  | x :: l, y :: m, h, ha => by
    have h0 := ha 0 (by simp) (by simp)
    simp at h0 h
    simp only [eqL, h0, Bool.true_and]
    refine eqL_all f l m h fun i h1 h2 => ?_
    have := ha (i + 1) (by simpa using h1) (by simpa using h2)
    simpa using this
  | [], y :: m, h, _ => by simp at h
  | x :: l, [], h, _ => by simp at h
def pollEq (a b : Poll) : Bool := a.slave == b.slave && (a.func == b.func && (a.start == b.start && (a.count == b.count && a.every == b.every)))
def ptEq (a b : Pt) : Bool := a.kind == b.kind && (a.poll == b.poll && (a.place == b.place && (a.cls == b.cls && (a.dead == b.dead && (a.num == b.num && (a.den == b.den && a.off == b.off))))))
def ctlEq (a b : Ctl) : Bool := a.kind == b.kind && (a.slave == b.slave && a.reg == b.reg)
def intEq (a b : Int) : Bool := a == b
theorem pollEq_iff (a b : Poll) : pollEq a b = true ↔ a = b := by cases a; cases b; simp [pollEq]
theorem ptEq_iff (a b : Pt) : ptEq a b = true ↔ a = b := by cases a; cases b; simp [ptEq]
theorem ctlEq_iff (a b : Ctl) : ctlEq a b = true ↔ a = b := by cases a; cases b; simp [ctlEq]
theorem intEq_iff (a b : Int) : intEq a b = true ↔ a = b := by simp [intEq]
/-- The nine numbers, and the rooms. -/
def numsEq (a b : Cfg) : Bool := a.own == b.own && (a.master == b.master && (a.reply == b.reply && (a.silence == b.silence && (a.retries == b.retries && (a.offline == b.offline && (a.select == b.select && (a.confirm == b.confirm && a.frag == b.frag)))))))
def roomEq (a b : Cfg) : Bool := a.r0 == b.r0 && (a.r1 == b.r1 && a.r2 == b.r2)
def unsEq (a b : Cfg) : Bool := a.unsol == b.unsol
/-- Are they alike? -/
def sameN (a b : Cfg) : Bool := numsEq a b && (unsEq a b && (roomEq a b && (eqL intEq a.slaves b.slaves && (eqL pollEq a.polls b.polls && (eqL ptEq a.points b.points && eqL ctlEq a.ctls b.ctls)))))
theorem sameN_iff (a b : Cfg) : sameN a b = true ↔ a = b := by
  cases a; cases b
  simp [sameN, numsEq, roomEq, unsEq, eqL_iff intEq intEq_iff, eqL_iff pollEq pollEq_iff, eqL_iff ptEq ptEq_iff, eqL_iff ctlEq ctlEq_iff]
  constructor
  · rintro ⟨⟨_, _, _, _, _, _, _, _, _⟩, _, ⟨_, _, _⟩, _, _, _, _⟩
    simp_all
  · rintro ⟨_, _, _, _, _, _, _, _, _, _, _, _, _, _, _, _, _⟩
    simp_all
theorem sameN_self (a : Cfg) : sameN a a = true := (sameN_iff a a).2 rfl
theorem sameN_comm (a b : Cfg) : sameN a b = sameN b a := by
  rcases Bool.eq_false_or_eq_true (sameN a b) with h | h <;> rcases Bool.eq_false_or_eq_true (sameN b a) with k | k
  · rw [h, k]
  · have := (sameN_iff a b).1 h
    subst this
    rw [h] at k
  · have := (sameN_iff b a).1 k
    subst this
    rw [h] at k
  · rw [h, k]
theorem sameN_ne {a b : Cfg} (h : a ≠ b) : sameN a b = false := by
  rw [← Bool.not_eq_true, sameN_iff]
  exact h
end Go.Proofs.YtpocjmlkhophoaaGreatDoor
