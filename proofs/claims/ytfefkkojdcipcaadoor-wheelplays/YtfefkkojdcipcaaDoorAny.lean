/- wheel.Set and wheel.Tick whatever they are asked; small things for the laws' loops. -/
import Derived.Test.YtfefkkojdcipcaaDoorOnce
import Derived.Test.YtfefkkojdcipcaaDoorPure
import Derived.Test.YtfefkkojdcipcaaDoorOps
namespace Go.Proofs.YtfefkkojdcipcaaDoor
open Go.RowKit Go.Extern.Stop Go.Stop Go.Extern

/-- Older memory stands: no Wheel, no row of numbers has turned. -/
theorem StepTo.still {w w' : World} {B p : Nat} {now : Int} {v : Value} {ts : List (Int × Int)} (h : WhAt w B p now v ts) (hb : Below w.heap.size w w') : StepTo w B p v now ts w' v :=
  ⟨h.on hb, Off.of_below _ hb, fun _ e => .inl e, hb.mono (Nat.le_trans h.base (Nat.le_of_lt h.lt)), fun _ _ hx => hx.on hb⟩
/-- What Set answers. -/
def SetAns (w' : World) (id after : Int) (x : Value) : Prop := (inR id after ∧ x = .nilIface) ∨ (¬ inR id after ∧ (∃ te ye, x = .iface te ye) ∧ WheelErr w' id x)
theorem set_any (B p : Nat) (now : Int) (v : Value) (ts : List (Int × Int)) (id after : Int) (w : World) (h : WhAt w B p now v ts) (hl : ts.length ≤ 90000) (hn0 : 0 ≤ now) (hn1 : now ≤ 1099511627776) :
    Calls Tryd.prog 12 #[.pointer (some ⟨p, 0, none⟩), .int .i64 id, .int .i64 after] w fun e w' => ∃ x v', e = .returned x ∧ SetAns w' id after x ∧ StepTo w B p v now (setA now ts id after) w' v' := by
  by_cases hr : inR id after
  · refine (set_ok B p now v ts id after w h hl hr.1.1 hr.1.2 hr.2.1 hr.2.2 hn0 hn1 (Nat.le_trans h.base (Nat.le_of_lt h.lt))).mono ?_
    rintro e w' ⟨rfl, ht⟩
    obtain ⟨v', st⟩ := ht.step h
    exact ⟨_, v', rfl, .inl ⟨hr, rfl⟩, by rw [setA, if_pos hr]; exact st⟩
  · refine (set_bad p id after w hr).mono ?_
    rintro e w' ⟨x, rfl, hx, hb⟩
    exact ⟨x, v, rfl, .inr ⟨hr, Chain.iface hx, hx⟩, by rw [setA, if_neg hr]; exact StepTo.still h hb⟩
theorem StepTo.trans {w w1 w2 : World} {B p : Nat} {v v1 v2 : Value} {now1 now2 : Int} {ts1 ts2 : List (Int × Int)} (h : StepTo w B p v now1 ts1 w1 v1) (k : StepTo w1 B p v1 now2 ts2 w2 v2) : StepTo w B p v now2 ts2 w2 v2 := by
  have ht : Turned w B p v now2 ts2 w2 := Turned.trans h.off h.fresh ⟨v2, k.wh, k.off, k.fresh⟩
  refine ⟨k.wh, ?_, fun j hj => ?_, h.below.trans k.below, fun x l hx => k.ints x l (h.ints x l hx)⟩
  · obtain ⟨_, _, ho, _⟩ := ht
    exact ho
  · rcases k.fresh j hj with e | e
    · exact h.fresh j e
    · exact .inr (Nat.le_trans h.off.size e)
theorem quiet_of {f : FuncId} {args : Array Value} {w : World} {n : Nat} {v : Value} (h : Calls Tryd.prog f args (w.drewN n) fun e w' => e = .returned v ∧ w.drewN n = w') : Calls Tryd.prog f args (w.drewN n) fun e w'' => e = .returned v ∧ ∃ m, w'' = w.drewN m :=
  h.mono fun _ _ ⟨he, hm⟩ => ⟨he, n, hm.symm⟩
theorem below_drew (w : World) (n : Nat) : Below w.heap.size w (w.drewN n) := below_drewN' (Below.refl _ _) n
/-- The Wheel at a loop of Sets. -/
def SetsInv (S : Nat) (w0 : World) (i : Nat) (wr : World) : Prop := ∃ v ts, WhAt wr S S 0 v ts ∧ Good ts ∧ ts.length ≤ i ∧ Below S w0 wr
/-- A Wheel and its copy share no block. -/
theorem copy_apart {w w' : World} {B p q : Nat} {now now2 : Int} {v v2 : Value} {ts ts2 : List (Int × Int)} (h : WhAt w B p now v ts) (h2 : WhAt w' w.heap.size q now2 v2 ts2) : ∀ k, Wrote p v k → ¬ Wrote q v2 k := fun k h3 h4 => by
  have h5 := h.lt_of_wrote h3
  rcases h4 with rfl | h4
  · exact absurd h2.base (by omega)
  · exact absurd (h2.rlt k h4).1 (by omega)
end Go.Proofs.YtfefkkojdcipcaaDoor
