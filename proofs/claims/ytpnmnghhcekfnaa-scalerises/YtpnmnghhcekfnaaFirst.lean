/- yardlaw5.first answers true; all older memory stands. -/
import Derived.Test.YtpnmnghhcekfnaaApply
namespace Go.Proofs.Ytpnmnghhcekfnaa
open Go.RowKit

theorem rapply_any (k q l c d n e o r : Int) (w : World) (hr : -9223372036854775808 ≤ r ∧ r ≤ 9223372036854775807) : Calls Try.prog 16 #[.agg #[.int .i64 k, .int .i64 q, .int .i64 l, .int .i64 c, .int .i64 d, .int .i64 n, .int .i64 e, .int .i64 o], .int .i64 r] w fun e' w' => e' = .returned (.int .i64 (applyN d n e o r)) ∧ Below w.heap.size w w' := by
  rcases Bool.eq_false_or_eq_true (mayN d n e o) with h | h
  · rw [show applyN d n e o r = clipV (quotN (lim r * n) e + o) M by rw [applyN, h]; rfl]
    exact rapply_yes k q l c d n e o r _ _ _ w h hr rfl rfl rfl
  · rw [show applyN d n e o r = 0 by rw [applyN, h]; rfl]
    exact rapply_no k q l c d n e o r w h

/-- a scale of the law's own, applied. -/
def valN (n e o r : Int) : Int := applyN 0 n e o r
theorem val_any (n e o r : Int) (w : World) (hr : -9223372036854775808 ≤ r ∧ r ≤ 9223372036854775807) : Calls Try.prog 15 #[.agg #[.int .i64 0, .int .i64 0, .int .i64 0, .int .i64 0, .int .i64 0, .int .i64 n, .int .i64 e, .int .i64 o], .int .i64 r] w fun e' w' => e' = .returned (.int .i64 (valN n e o r)) ∧ Below w.heap.size w w' := apply_any 0 0 0 0 0 n e o r w hr

theorem clip16 (w : World) : Calls Try.prog 19 #[.int .i64 40000, .int .i64 16] w fun e w' => e = .returned (.tuple #[.int .i64 32767, .bool true]) ∧ w = w' :=
  clip_any 40000 15 32768 (by omega) (by decide) (by decide) (by decide) w
theorem v1 : valN 1 2 0 7 = 4 := by decide +kernel
theorem v2 : valN 1 2 0 (-7) = -4 := by decide +kernel
theorem v3 : valN 3 1 5 2 = 11 := by decide +kernel
theorem b1 : beyondN 10 13 3 = false := by decide +kernel
theorem b2 : beyondN 10 14 3 = true := by decide +kernel
theorem s1 : sgn 65535 = -1 := by decide +kernel
set_option maxHeartbeats 1000000 in
theorem first_any (w : World) : Calls Try.prog 12 #[] w fun e w' => e = .returned (.bool true) ∧ Below w.heap.size w w' := by
  go_enter Try.func12, Try.ntmps12
  go_wp2_with fail
  refine (clip16 _).mono ?_
  rintro e w' ⟨rfl, rfl⟩
  go_wp2_with fail
  refine (p_any 1 2 0 _).mono ?_
  rintro e w1 ⟨rfl, h⟩
  have HB1 := Lib.hid h
  clear h
  go_wp2_with fail
  refine (val_any 1 2 0 7 _ (by decide)).mono ?_
  rintro e w2 ⟨rfl, h⟩
  have HB2 := Lib.hid (HB1.out.trans (h.mono HB1.out.size))
  clear h
  rw [v1]
  go_wp2_with fail
  refine (p_any 1 2 0 _).mono ?_
  rintro e w3 ⟨rfl, h⟩
  have HB3 := Lib.hid (HB2.out.trans (h.mono HB2.out.size))
  clear h
  go_wp2_with fail
  refine (val_any 1 2 0 (-7) _ (by decide)).mono ?_
  rintro e w4 ⟨rfl, h⟩
  have HB4 := Lib.hid (HB3.out.trans (h.mono HB3.out.size))
  clear h
  rw [v2]
  go_wp2_with fail
  refine (p_any 3 1 5 _).mono ?_
  rintro e w5 ⟨rfl, h⟩
  have HB5 := Lib.hid (HB4.out.trans (h.mono HB4.out.size))
  clear h
  go_wp2_with fail
  refine (val_any 3 1 5 2 _ (by decide)).mono ?_
  rintro e w6 ⟨rfl, h⟩
  have HB6 := Lib.hid (HB5.out.trans (h.mono HB5.out.size))
  clear h
  rw [v3]
  go_wp2_with fail
  refine (beyond_any 10 13 3 _ (by decide) (by decide) (by decide)).mono ?_
  rintro e w' ⟨rfl, rfl⟩
  rw [b1]
  go_wp2_with fail
  refine (beyond_any 10 14 3 _ (by decide) (by decide) (by decide)).mono ?_
  rintro e w' ⟨rfl, rfl⟩
  rw [b2]
  go_wp2_with fail
  refine (signed_any 65535 _).mono ?_
  rintro e w' ⟨rfl, rfl⟩
  rw [s1]
  go_wp2
  go_ret
  exact ⟨rfl, HB6.out⟩
end Go.Proofs.Ytpnmnghhcekfnaa
