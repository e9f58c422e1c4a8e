/- yardlaw8.first answers true; all older memory stands. -/
import Derived.Test.YthcehcfeedikkaaDoorFrm2
namespace Go.Proofs.YthcehcfeedikkaaDoor
open Go.RowKit Go.Extern.Stop Go.Stop Go.Extern

theorem lit5 (w : World) : BytesAt (w.alloc (.cells #[.int .u8 3, .int .u8 0, .int .u8 0, .int .u8 0, .int .u8 1] 5)) (.slice (some ⟨w.heap.size, 0, none⟩) 5 5) [3, 0, 0, 0, 1] :=
  bytesAt_own (base := w.heap.size) (l := [3, 0, 0, 0, 1]) (World.ownsRow_lit w #[.int .u8 3, .int .u8 0, .int .u8 0, .int .u8 0, .int .u8 1] 5 (Nat.le_refl _) (by unfold maxLen; omega) (by simp))
theorem lit2 (w : World) : BytesAt (w.alloc (.cells #[.int .u8 1, .int .u8 2] 5)) (.slice (some ⟨w.heap.size, 0, none⟩) 2 2) [1, 2] :=
  bytesAt_own (base := w.heap.size) (l := [1, 2]) (World.ownsRow_lit w #[.int .u8 1, .int .u8 2] 2 (Nat.le_refl _) (by unfold maxLen; omega) (by simp))
theorem frm_first : frm 1 [3, 0, 0, 0, 1] = [1, 3, 0, 0, 0, 1, 132, 10] := by decide +kernel

set_option maxRecDepth 100000 in
set_option maxHeartbeats 2000000 in
theorem first_any (w : World) : Calls Tryd.prog 6 #[] w fun e w' => e = .returned (.bool true) ∧ Below w.heap.size w w' := by
  obtain ⟨wx, hwx⟩ : ∃ wx, wx = w.alloc (.cells #[.int .u8 3, .int .u8 0, .int .u8 0, .int .u8 0, .int .u8 1] 5) := ⟨_, rfl⟩
  have X0 : Hid (Below w.heap.size w wx) := Lib.hid (by rw [hwx]; exact below_new w _)
  have B0 : Hid (BytesAt wx (.slice (some ⟨w.heap.size, 0, none⟩) 5 5) [3, 0, 0, 0, 1]) := Lib.hid (by rw [hwx]; exact lit5 w)
  go_enter Tryd.func6, Tryd.ntmps6
  go_wp2_with fail
  rw [← hwx]
  clear hwx
  refine (frame_ok 1 _ [3, 0, 0, 0, 1] wx B0.out (by simp) (by simp)).mono ?_
  rintro e w1 ⟨v1, rfl, ho, hb⟩
  rw [frm_first] at ho
  obtain ⟨g1, k1, rfl, _⟩ := row_lit ho (by simp)
  have O1 := Lib.hid (bytesAt_own ho)
  have X1 := Lib.hid (X0.out.trans (hb.mono X0.out.size))
  clear ho hb
  go_wp2_with fail
  refine (new_ok 2 w1 (by omega) (by omega)).mono ?_
  rintro e w2 ⟨rfl, h0, hb⟩
  have F2 : Hid (Fm w1 w1.heap.size 2 0 [] w2) := Lib.hid (h0.fm' (Off.of_below _ hb))
  clear h0 hb
  go_wp2_with fail
  refine (byte_any w1 w2 _ 2 0 [] 1 F2.out (by simp)).mono ?_
  rintro e w3 ⟨rfl, h⟩
  have F3 : Hid (Fm w1 w1.heap.size 2 ((0 : Nat) : Int) [1] w3) := Lib.hid h
  clear h
  go_wp2_with fail
  refine (tick_more w1 w3 _ 0 2 [1] F3.out (by simp) (by omega) (by omega)).mono ?_
  rintro e w4 ⟨rfl, h⟩
  have F4 := Lib.hid h
  clear h
  go_wp2_with fail
  refine (byte_any w1 w4 _ 2 _ [1] 2 F4.out (by simp)).mono ?_
  rintro e w5 ⟨rfl, h⟩
  have F5 : Hid (Fm w1 w1.heap.size 2 ((0 : Nat) : Int) [1, 2] w5) := Lib.hid h
  clear h
  go_wp2_with fail
  refine (tick_more w1 w5 _ 0 2 [1, 2] F5.out (by simp) (by omega) (by omega)).mono ?_
  rintro e w6 ⟨rfl, h⟩
  have F6 : Hid (Fm w1 w1.heap.size 2 ((1 : Nat) : Int) [1, 2] w6) := Lib.hid h
  clear h
  go_wp2_with fail
  refine (tick_end w1 w6 _ 1 2 [1, 2] F6.out (by simp) (by omega) (by omega)).mono ?_
  rintro e w7 ⟨v7, rfl, ho, _, hoff⟩
  obtain ⟨g7, k7, rfl, _⟩ := row_lit ho (by simp)
  have O7 := Lib.hid (bytesAt_own ho)
  have hb := hoff.below (Nat.le_refl _) (fun k e => by rw [e]; exact Nat.le_refl _)
  have X7 := Lib.hid (X1.out.trans (hb.mono X1.out.size))
  have q1 := conv_bytes w7 (.slice (some ⟨g1, 0, none⟩) 8 k1) [1, 3, 0, 0, 0, 1, 132, 10] (O1.out.on hb)
  have O8 : Hid (BytesAt _ (.slice (some ⟨g7, 0, none⟩) 2 k7) [1, 2]) := Lib.hid (O7.out.on (below_new w7 (.cells #[.int .u8 1, .int .u8 2] 5)))
  have L8 := Lib.hid (lit2 w7)
  have X8 := Lib.hid (X7.out.trans ((below_new w7 (.cells #[.int .u8 1, .int .u8 2] 5)).mono X7.out.size))
  clear ho hb hoff
  go_wp2_with fail
  refine (alike_any _ _ [1, 2] [1, 2] _ O8.out L8.out).mono ?_
  rintro e w9 ⟨rfl, rfl⟩
  go_wp2
  go_ret
  exact ⟨rfl, X8.out⟩
end Go.Proofs.YthcehcfeedikkaaDoor
