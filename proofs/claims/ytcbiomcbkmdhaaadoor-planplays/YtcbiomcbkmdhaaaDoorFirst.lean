/- yardlaw9.first answers true; all older memory stands. -/
import Derived.Test.YtcbiomcbkmdhaaaDoorNxt
namespace Go.Proofs.YtcbiomcbkmdhaaaDoor
open Go.RowKit Go.Extern.Stop Go.Stop Go.Extern

theorem lit_ints2 (w : World) (a b : Int) : IntsAt (w.alloc (.cells #[.int .i64 a, .int .i64 b] 3)) (.slice (some ⟨w.heap.size, 0, none⟩) 2 2) [a, b] :=
  intsAt_own (base := w.heap.size) (l := [a, b]) (World.ownsRow_lit w #[.int .i64 a, .int .i64 b] 2 (Nat.le_refl _) (by unfold maxLen; omega) (by simp))
/-- What Done leaves alone. -/
theorem off_below {w w' : World} {B p : Nat} {v : Value} {ts : List (Int × Int)} (h : PlAt w B p v ts) (ho : Off (fun k => v.ownBlock = some k) w w') : Below B w w' :=
  ho.below (by have := h.lt; have := h.base; omega) (fun k e => (h.rlt k e).1)
theorem first_p0 : nextP (newP [5, 3]) 0 = some 0 := by decide +kernel
theorem first_p1 : nextP (doneA (newP [5, 3]) 0 0) 0 = some 1 := by decide +kernel
theorem first_p2 : nextP (doneA (doneA (newP [5, 3]) 0 0) 1 0) 0 = none := by decide +kernel
theorem first_p3 : nextP (doneA (doneA (newP [5, 3]) 0 0) 1 0) 3 = some 1 := by decide +kernel
theorem first_ok : EveryOk [5, 3] := by
  intro x hx
  simp at hx
  omega
set_option maxRecDepth 100000 in
set_option maxHeartbeats 2000000 in
theorem first_any (w : World) : Calls Tryd.prog 4 #[] w fun e w' => e = .returned (.bool true) ∧ Below w.heap.size w w' := by
  obtain ⟨wx, hwx⟩ : ∃ wx, wx = w.alloc (.cells #[.int .i64 5, .int .i64 3] 3) := ⟨_, rfl⟩
  have X0 : Hid (Below w.heap.size w wx) := Lib.hid (by rw [hwx]; exact below_nw w _)
  have B0 : Hid (IntsAt wx (.slice (some ⟨w.heap.size, 0, none⟩) 2 2) [5, 3]) := Lib.hid (by rw [hwx]; exact lit_ints2 w 5 3)
  go_enter Tryd.func4, Tryd.ntmps4
  go_wp2_with fail
  rw [← hwx]
  clear hwx
  refine (new_any _ [5, 3] wx B0.out (by simp)).mono ?_
  rintro e w1 (⟨_, p, v, rfl, hp, hb⟩ | ⟨j, hj, hbad, _⟩)
  · have K0 := Lib.hid (pollsOk_new first_ok)
    have A0 := Lib.hid hp
    have X1 := Lib.hid (X0.out.trans (hb.mono X0.out.size))
    clear hp hb
    generalize HT : newP [5, 3] = ts at *
    have E0 : Hid (nextP ts 0 = some 0) := Lib.hid (by rw [← HT]; exact first_p0)
    have E1 : Hid (nextP (doneA ts 0 0) 0 = some 1) := Lib.hid (by rw [← HT]; exact first_p1)
    have E2 : Hid (nextP (doneA (doneA ts 0 0) 1 0) 0 = none) := Lib.hid (by rw [← HT]; exact first_p2)
    have E3 : Hid (nextP (doneA (doneA ts 0 0) 1 0) 3 = some 1) := Lib.hid (by rw [← HT]; exact first_p3)
    have HLN : Hid (ts.length = 2) := Lib.hid (by rw [← HT]; rfl)
    clear HT
    go_wp2_with fail
    refine (next_any _ p v ts 0 w1 A0.out (by rw [HLN.out]; omega)).mono ?_
    rintro e w2 ⟨rfl, hb⟩
    rw [E0.out]
    have A2 := Lib.hid (A0.out.on hb)
    have X2 := Lib.hid (X1.out.trans (hb.mono X1.out.size))
    clear hb
    simp only [nextV, Option.getD_some, Option.isSome_some]
    go_wp2_with fail
    refine (done_any _ p v [5, 3] ts 0 0 w2 A2.out K0.out).mono ?_
    rintro e w3 ⟨x, rfl, hp, ho, hx⟩
    have A3 := Lib.hid hp
    have X3 : Hid (Below w.heap.size w w3) := Lib.hid (X2.out.trans ((off_below A2.out ho).mono X0.out.size))
    clear hp ho hx
    go_wp2_with fail
    refine (next_any _ p v _ 0 w3 A3.out (by rw [doneA_length, HLN.out]; omega)).mono ?_
    rintro e w4 ⟨rfl, hb⟩
    rw [E1.out]
    have A4 := Lib.hid (A3.out.on hb)
    have X4 := Lib.hid (X3.out.trans (hb.mono X3.out.size))
    clear hb
    simp only [nextV, Option.getD_some, Option.isSome_some]
    go_wp2_with fail
    refine (done_any _ p v [5, 3] _ 1 0 w4 A4.out (K0.out.doneA 0 0)).mono ?_
    rintro e w5 ⟨x, rfl, hp, ho, hx⟩
    have A5 := Lib.hid hp
    have X5 : Hid (Below w.heap.size w w5) := Lib.hid (X4.out.trans ((off_below A4.out ho).mono X0.out.size))
    clear hp ho hx
    go_wp2_with fail
    refine (next_any _ p v _ 0 w5 A5.out (by rw [doneA_length, doneA_length, HLN.out]; omega)).mono ?_
    rintro e w6 ⟨rfl, hb⟩
    rw [E2.out]
    have A6 := Lib.hid (A5.out.on hb)
    have X6 := Lib.hid (X5.out.trans (hb.mono X5.out.size))
    clear hb
    simp only [nextV, Option.getD_none, Option.isSome_none]
    go_wp2_with fail
    refine (next_any _ p v _ 3 w6 A6.out (by rw [doneA_length, doneA_length, HLN.out]; omega)).mono ?_
    rintro e w7 ⟨rfl, hb⟩
    rw [E3.out]
    have X7 := Lib.hid (X6.out.trans (hb.mono X6.out.size))
    clear hb
    simp only [nextV, Option.getD_some, Option.isSome_some]
    go_wp2
    go_ret
    exact ⟨rfl, X7.out⟩
  · exfalso
    have h2 := first_ok _ (List.getElem_mem hj)
    omega
end Go.Proofs.YtcbiomcbkmdhaaaDoor
