/- Memory that stands but for some blocks; the timers of a wheel.Wheel as cells; a Wheel in memory. -/
import Derived.Test.YtfefkkojdcipcaaDoorAs
import Derived.BigQuiet
import Derived.Laws.Rows
import Derived.Laws.OwnMore
import Derived.Lib.Hide
namespace Go.Proofs.YtfefkkojdcipcaaDoor
open Go.RowKit Go.Extern.Stop Go.Stop Go.Extern

/-- All blocks that were there stand, but for those of S. -/
structure Off (S : Nat → Prop) (w w' : World) : Prop where
  os : w'.os = w.os
  tape : w'.tape = w.tape
  output : w'.output = w.output
  size : w.heap.size ≤ w'.heap.size
  block : ∀ k, k < w.heap.size → ¬ S k → w'.heap[k]? = w.heap[k]?
theorem Off.refl (S : Nat → Prop) (w : World) : Off S w w := ⟨rfl, rfl, rfl, Nat.le_refl _, fun _ _ _ => rfl⟩
theorem Off.trans {S : Nat → Prop} {a b c : World} (h : Off S a b) (k : Off S b c) : Off S a c :=
  ⟨k.os.trans h.os, k.tape.trans h.tape, k.output.trans h.output, Nat.le_trans h.size k.size, fun i hi hn => (k.block i (Nat.lt_of_lt_of_le hi h.size) hn).trans (h.block i hi hn)⟩
theorem Off.mono {S T : Nat → Prop} {a b : World} (h : Off S a b) (hs : ∀ k, k < a.heap.size → S k → T k) : Off T a b := ⟨h.os, h.tape, h.output, h.size, fun k hk hn => h.block k hk fun s => hn (hs k hk s)⟩
theorem Off.of_below (S : Nat → Prop) {a b : World} (h : Below a.heap.size a b) : Off S a b := ⟨h.os, h.tape, h.output, h.size, fun k hk _ => h.block k hk⟩
theorem Off.of_grown {a b : World} {row : Option Nat} (h : a.grownBy b row) : Off (fun k => row = some k) a b := ⟨h.os, h.tape, h.output, h.size, fun k hk hn => h.block k hk fun e => hn e.symm⟩
theorem Off.set (S : Nat → Prop) (w : World) (p : Addr) (u : Value) (hp : S p.block) : Off S w (w.setCell p u) :=
  ⟨rfl, rfl, rfl, by simp [World.setCell], fun k _ hk => Below.heap_setCell w p u k (fun e => hk (by rw [e]; exact hp))⟩
/-- What stands off S stands below B, where S lies from B on. -/
theorem Off.below {S : Nat → Prop} {a b : World} (h : Off S a b) {B : Nat} (hB : B ≤ a.heap.size) (hs : ∀ k, S k → B ≤ k) : Below B a b := ⟨h.os, h.tape, h.output, h.size, fun k hk => h.block k (by omega) fun s => by have := hs k s; omega⟩

theorem lt_heap {w : World} {k : Nat} {o : Obj} (h : w.heap[k]? = some o) : k < w.heap.size := by
  rcases Nat.lt_or_ge k w.heap.size with h' | h'
  · exact h'
  · simp [Array.getElem?_eq_none h'] at h
theorem ownsRow_off {w w' : World} {S : Nat → Prop} {base : Nat} {e : TypeId} {size : Nat} {v : Value} {n : Nat} {xs : List Value} (h : w.ownsRow base e size v n xs) (hb : Off S w w') (hs : ∀ k, v.ownBlock = some k → ¬ S k) : w'.ownsRow base e size v n xs := by
  obtain ⟨hl, h⟩ := h
  refine ⟨hl, ?_⟩
  rcases h with h | ⟨g, cap, cur, hv, hg, hh, h⟩
  · exact .inl h
  · exact .inr ⟨g, cap, cur, hv, hg, by rw [hb.block g (lt_heap hh) (hs g (by rw [hv]; rfl))]; exact hh, h⟩
theorem ownsRow_below {w w' : World} {base : Nat} {e : TypeId} {size : Nat} {v : Value} {n : Nat} {xs : List Value} (h : w.ownsRow base e size v n xs) (hb : Below w.heap.size w w') : w'.ownsRow base e size v n xs :=
  ownsRow_off h (Off.of_below (fun _ => False) hb) (fun _ _ f => f)
/-- A row is no block of another type. -/
theorem row_no {w : World} {base : Nat} {e : TypeId} {size : Nat} {v : Value} {n : Nat} {xs : List Value} (h : w.ownsRow base e size v n xs) {r : Nat} {cs : Array Value} {t : TypeId} {fr : Nat × Nat} (hr : w.heap[r]? = some (.cells cs t fr)) (ht : t ≠ e) : v.ownBlock ≠ some r := fun e' => by
  rcases h.2 with ⟨hv, _⟩ | ⟨g, cap, cur, hv, _, hh, _⟩
  · rw [hv] at e'; cases e'
  · rw [hv] at e'
    have : g = r := by simpa [Value.ownBlock] using e'
    rw [this, hr] at hh
    simp only [Option.some.injEq, Obj.cells.injEq] at hh
    exact ht hh.2.1
theorem heap_set (w : World) (r o : Nat) (cs : Array Value) (t : TypeId) (fr : Nat × Nat) (u : Value) (h : w.heap[r]? = some (.cells cs t fr)) : (w.setCell ⟨r, o, none⟩ u).heap[r]? = some (.cells (cs.setIfInBounds o u) t fr) := by
  simp [World.setCell, Array.getElem?_modify, h]

/-- Timers as cells. -/
def tcells : List (Int × Int) → List Value
  | [] => []
  | (i, a) :: l => .int .i64 i :: .int .i64 a :: tcells l
theorem tcells_length : ∀ l : List (Int × Int), (tcells l).length = l.length * 2
  | [] => rfl
  | (_, _) :: l => by simp only [tcells, List.length_cons, tcells_length l]; omega
theorem tcells_append : ∀ l m : List (Int × Int), tcells (l ++ m) = tcells l ++ tcells m
  | [], m => rfl
  | (_, _) :: l, m => by simp [tcells, tcells_append l m]
theorem tcells_get : ∀ (l : List (Int × Int)) (i : Nat) (h : i < l.length), (tcells l)[i * 2]? = some (.int .i64 l[i].1) ∧ (tcells l)[i * 2 + 1]? = some (.int .i64 l[i].2)
  | (_, _) :: _, 0, _ => ⟨rfl, rfl⟩
  | (_, _) :: l, i + 1, h => by
    have := tcells_get l i (by simpa using h)
    have e : (i + 1) * 2 = i * 2 + 1 + 1 := by omega
    rw [e]
    simpa [tcells] using this
theorem tcells_take : ∀ (l : List (Int × Int)) (i : Nat), (tcells l).take (i * 2) = tcells (l.take i)
  | [], i => by simp [tcells]
  | (_, _) :: l, 0 => by simp [tcells]
  | (_, _) :: l, i + 1 => by
    have e : (i + 1) * 2 = i * 2 + 1 + 1 := by omega
    rw [e]
    simp [tcells, tcells_take l i]
theorem tcells_drop : ∀ (l : List (Int × Int)) (i : Nat), (tcells l).drop (i * 2) = tcells (l.drop i)
  | [], i => by simp [tcells]
  | (_, _) :: l, 0 => by simp [tcells]
  | (_, _) :: l, i + 1 => by
    have e : (i + 1) * 2 = i * 2 + 1 + 1 := by omega
    rw [e]
    simp [tcells, tcells_drop l i]
theorem tcells_one : ∀ (l : List (Int × Int)), ∀ u ∈ tcells l, u.oneCell' = true
  | [], u, h => by cases h
  | (_, _) :: l, u, h => by
    simp only [tcells, List.mem_cons] at h
    rcases h with rfl | rfl | h
    · rfl
    · rfl
    · exact tcells_one l u h

/-- A wheel.Wheel: its clock, and its timers in a row of its own. -/
structure WhAt (w : World) (B p : Nat) (now : Int) (v : Value) (ts : List (Int × Int)) : Prop where
  base : B ≤ p
  obj : w.heap[p]? = some (.cells #[.int .i64 now, v] 61 (0, 0))
  own : w.ownsRow B 70 2 v ts.length (tcells ts)
section
variable {w w' : World} {B p : Nat} {now : Int} {v : Value} {ts : List (Int × Int)}
theorem WhAt.c0 (h : WhAt w B p now v ts) : w.cell? ⟨p, 0, none⟩ = some (.int .i64 now) := by rw [cell_of_row _ _ _ _ _ _ h.obj]; rfl
theorem WhAt.c1 (h : WhAt w B p now v ts) : w.cell? ⟨p, 1, none⟩ = some v := by rw [cell_of_row _ _ _ _ _ _ h.obj]; rfl
theorem WhAt.fr (h : WhAt w B p now v ts) (j : Nat) : w.frozen? ⟨p, j, none⟩ = false := frozen_of_row _ _ _ _ _ h.obj
theorem WhAt.lt (h : WhAt w B p now v ts) : p < w.heap.size := lt_heap h.obj
theorem WhAt.rlt (h : WhAt w B p now v ts) : ∀ k, v.ownBlock = some k → B ≤ k ∧ k < w.heap.size := h.own.lt
theorem WhAt.ne (h : WhAt w B p now v ts) : v.ownBlock ≠ some p := row_no h.own h.obj (by decide)
/-- The blocks that a Wheel has. -/
def Wrote (p : Nat) (v : Value) (k : Nat) : Prop := k = p ∨ v.ownBlock = some k
theorem WhAt.off {S : Nat → Prop} (h : WhAt w B p now v ts) (hk : Off S w w') (hs : ∀ k, Wrote p v k → ¬ S k) : WhAt w' B p now v ts :=
  ⟨h.base, (hk.block p h.lt (hs p (.inl rfl))).trans h.obj, ownsRow_off h.own hk (fun k e => hs k (.inr e))⟩
theorem WhAt.on (h : WhAt w B p now v ts) (hk : Below w.heap.size w w') : WhAt w' B p now v ts := h.off (Off.of_below (fun _ => False) hk) (fun _ _ f => f)
/-- The slice of a Wheel's timers: a form, and its cells. -/
theorem WhAt.form (h : WhAt w B p now v ts) : ∃ ao cap, v = .slice ao ts.length cap ∧ ts.length ≤ cap ∧ cap ≤ maxLen ∧ ∀ i (hi : i < ts.length), ∃ g, ao = some ⟨g, 0, none⟩ ∧ w.cell? ⟨g, i * 2, none⟩ = some (.int .i64 ts[i].1) ∧ w.cell? ⟨g, i * 2 + 1, none⟩ = some (.int .i64 ts[i].2) := by
  have ho := h.own
  rcases ho.2 with ⟨hv, h0⟩ | ⟨g, cap, cur, hv, _, _, hc, hm, _⟩
  · exact ⟨none, 0, by rw [hv, h0], by omega, by simp [maxLen], fun i hi => by omega⟩
  · refine ⟨some ⟨g, 0, none⟩, cap, hv, hc, hm, fun i hi => ?_⟩
    subst hv
    have hgt := tcells_get ts i hi
    exact ⟨g, rfl, (ho.cellAt (i * 2) (by omega)).trans hgt.1, (ho.cellAt (i * 2 + 1) (by omega)).trans hgt.2⟩
theorem WhAt.lt_of_wrote (h : WhAt w B p now v ts) {k : Nat} (hk : Wrote p v k) : k < w.heap.size := by
  rcases hk with rfl | hk
  · exact h.lt
  · exact (h.rlt k hk).2
end
/-- A Wheel has been turned: it and its row alone (or a new row). -/
def Turned (w : World) (B p : Nat) (v : Value) (now' : Int) (ts' : List (Int × Int)) (w' : World) : Prop :=
  ∃ v', WhAt w' B p now' v' ts' ∧ Off (Wrote p v) w w' ∧ ∀ k, v'.ownBlock = some k → v.ownBlock = some k ∨ w.heap.size ≤ k
theorem Turned.below {w w' : World} {B p : Nat} {now now' : Int} {v : Value} {ts ts' : List (Int × Int)} (h : WhAt w B p now v ts) (hB : B ≤ w.heap.size) (ht : Turned w B p v now' ts' w') : Below B w w' := by
  obtain ⟨v', _, ho, _⟩ := ht
  refine ho.below hB fun k hk => ?_
  rcases hk with rfl | hk
  · exact h.base
  · exact (h.rlt k hk).1
/-- Another Wheel that shares no block with the turned one stands, and shares none still. -/
theorem Turned.other {w w' : World} {p : Nat} {v : Value} {B2 p2 : Nat} {now2 : Int} {v2 : Value} {ts2 : List (Int × Int)} {v' : Value}
    (h2 : WhAt w B2 p2 now2 v2 ts2) (ho : Off (Wrote p v) w w') (hn : ∀ k, v'.ownBlock = some k → v.ownBlock = some k ∨ w.heap.size ≤ k) (ha : ∀ k, Wrote p v k → ¬ Wrote p2 v2 k) :
    WhAt w' B2 p2 now2 v2 ts2 ∧ ∀ k, Wrote p v' k → ¬ Wrote p2 v2 k := by
  refine ⟨h2.off ho (fun k h1 h3 => ha k h3 h1), fun k h1 h3 => ?_⟩
  rcases h1 with rfl | h1
  · exact ha k (.inl rfl) h3
  · rcases hn k h1 with h4 | h4
    · exact ha k (.inr h4) h3
    · exact absurd (h2.lt_of_wrote h3) (by omega)

theorem new_any (w : World) : Calls Tryd.prog 10 #[] w fun e w' => e = .returned (.pointer (some ⟨w.heap.size, 0, none⟩)) ∧ w' = w.alloc (.cells #[.int .i64 0, .slice none 0 0] 61) := by
  go_enter Tryd.func10, Tryd.ntmps10
  go_wp2
  go_ret
  exact ⟨rfl, rfl⟩
theorem whAt_new (w : World) : WhAt (w.alloc (.cells #[.int .i64 0, .slice none 0 0] 61)) w.heap.size w.heap.size 0 (.slice none 0 0) [] := ⟨Nat.le_refl _, heap_alloc_new w _, World.ownsRow_nil _ _ _ _⟩

/-- MaxTime. -/
def maxT : Int := 1099511627776
theorem span_yes (n : Int) (h0 : 0 ≤ n) (h1 : n ≤ 1099511627776) (w : World) : Calls Tryd.prog 28 #[.int .i64 n] w fun e w' => e = .returned (.bool true) ∧ w = w' := by
  go_enter Tryd.func28, Tryd.ntmps28
  go_wp2
  go_ret
  exact ⟨rfl, rfl⟩
theorem span_no (n : Int) (h : ¬ (0 ≤ n ∧ n ≤ 1099511627776)) (w : World) : Calls Tryd.prog 28 #[.int .i64 n] w fun e w' => e = .returned (.bool false) ∧ w = w' := by
  by_cases h0 : 0 ≤ n
  · have h1 : ¬ n ≤ 1099511627776 := fun x => h ⟨h0, x⟩
    clear h
    go_enter Tryd.func28, Tryd.ntmps28
    go_wp2
    go_ret
    exact ⟨rfl, rfl⟩
  · clear h
    go_enter Tryd.func28, Tryd.ntmps28
    go_wp2
    go_ret
    exact ⟨rfl, rfl⟩
/-- A time and more: MaxTime at most. -/
def laterT (t n : Int) : Int := min (t + n) 1099511627776
theorem later_any (t n : Int) (h0 : 0 ≤ t) (h1 : t ≤ 1099511627776) (h2 : 0 ≤ n) (h3 : n ≤ 1099511627776) (w : World) : Calls Tryd.prog 30 #[.int .i64 t, .int .i64 n] w fun e w' => e = .returned (.int .i64 (laterT t n)) ∧ w = w' := by
  have hw : IntKind.i64.wrap (t + n) = t + n := by rw [IntKind.wrap_i64]; omega
  go_enter Tryd.func30, Tryd.ntmps30
  go_wp2
  · go_ret
    refine ⟨?_, rfl⟩
    have e : laterT t n = 1099511627776 := by unfold laterT; omega
    rw [e]; rfl
  · go_ret
    refine ⟨?_, rfl⟩
    have e : laterT t n = t + n := by unfold laterT; omega
    rw [e]; rfl
theorem laterT_bounds {t n : Int} (h0 : 0 ≤ t) (h1 : t ≤ 1099511627776) (h2 : 0 ≤ n) : 0 ≤ laterT t n ∧ laterT t n ≤ 1099511627776 := by unfold laterT; omega

def sWheel : ByteArray := ⟨#[119, 104, 101, 101, 108]⟩
/-- An error of wheel's, wrapped once. -/
def WheelErr (w : World) (x : Int) (v : Value) : Prop := Chain w (.iface 36 (.int .i64 1)) [(sWheel, x)] v
theorem wheelErr_new (w : World) (x : Int) : WheelErr (w.alloc (.cells #[.string sWheel, .int .i64 x, .iface 36 (.int .i64 1)] 87)) x (.iface 84 (.pointer (some ⟨w.heap.size, 0, none⟩))) :=
  ⟨w.heap.size, _, rfl, by simp, by simp, by simp, by simp, rfl⟩
theorem fault_any (x : Int) (w : World) : Calls Tryd.prog 29 #[.int .i64 x] w fun e w' => ∃ v, e = .returned v ∧ WheelErr w' x v ∧ Below w.heap.size w w' := by
  go_enter Tryd.func29, Tryd.ntmps29
  go_wp2_with fail
  refine (in_some _ _ _ _ _).mono ?_
  rintro e w1 ⟨rfl, rfl⟩
  go_wp2
  go_ret
  exact ⟨_, rfl, wheelErr_new w x, (Below.refl _ _).alloc (Nat.le_refl _) _⟩
theorem now_any (B p : Nat) (now : Int) (v : Value) (ts : List (Int × Int)) (w : World) (h : WhAt w B p now v ts) : Calls Tryd.prog 21 #[.pointer (some ⟨p, 0, none⟩)] w fun e w' => e = .returned (.int .i64 now) ∧ w = w' := by
  have c0 := h.c0
  clear h
  go_enter Tryd.func21, Tryd.ntmps21
  go_wp2
  go_ret
  exact ⟨rfl, rfl⟩
end Go.Proofs.YtfefkkojdcipcaaDoor
