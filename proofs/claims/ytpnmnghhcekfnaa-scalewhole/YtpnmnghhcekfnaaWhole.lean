/- yardlaw5.ScaleWhole answers true for every three numbers; memory that was there stands. -/
import Derived.Test.YtpnmnghhcekfnaaPure
namespace Go.Proofs.Ytpnmnghhcekfnaa
open Go.RowKit

/-- out of the bounds: nothing is asked but first. -/
theorem whole_bad (n e r : Int) (w : World) (hbad : n < -1000 ∨ 1000 < n ∨ e < 1 ∨ 1000 < e ∨ r < -1048576 ∨ 1048576 < r) : Calls Try.prog 11 #[.int .i64 n, .int .i64 e, .int .i64 r] w fun e' w' => e' = .returned (.bool true) ∧ Below w.heap.size w w' := by
  rcases (by omega : n < -1000 ∨ (¬ n < -1000 ∧ 1000 < n) ∨ (¬ n < -1000 ∧ ¬ 1000 < n ∧ e < 1) ∨ (¬ n < -1000 ∧ ¬ 1000 < n ∧ ¬ e < 1 ∧ 1000 < e) ∨ (¬ n < -1000 ∧ ¬ 1000 < n ∧ ¬ e < 1 ∧ ¬ 1000 < e ∧ r < -1048576) ∨ (¬ n < -1000 ∧ ¬ 1000 < n ∧ ¬ e < 1 ∧ ¬ 1000 < e ∧ ¬ r < -1048576 ∧ 1048576 < r)) with h0 | ⟨h0, h1⟩ | ⟨h0, h1, h2⟩ | ⟨h0, h1, h2, h3⟩ | ⟨h0, h1, h2, h3, h4⟩ | ⟨h0, h1, h2, h3, h4, h5⟩
  · clear hbad
    go_enter Try.func11, Try.ntmps11
    go_wp2_with fail
    refine (first_any w).mono ?_
    rintro e' w1 ⟨rfl, h⟩
    have HB1 := Lib.hid h
    clear h
    go_wp2_with fail
    refine (first_any _).mono ?_
    rintro e' w2 ⟨rfl, h⟩
    have HB2 := Lib.hid (HB1.out.trans (h.mono HB1.out.size))
    clear h
    go_wp2
    go_ret
    exact ⟨rfl, HB2.out⟩
  · clear hbad
    go_enter Try.func11, Try.ntmps11
    go_wp2_with fail
    refine (first_any w).mono ?_
    rintro e' w1 ⟨rfl, h⟩
    have HB1 := Lib.hid h
    clear h
    go_wp2_with fail
    refine (first_any _).mono ?_
    rintro e' w2 ⟨rfl, h⟩
    have HB2 := Lib.hid (HB1.out.trans (h.mono HB1.out.size))
    clear h
    go_wp2
    go_ret
    exact ⟨rfl, HB2.out⟩
  · clear hbad
    go_enter Try.func11, Try.ntmps11
    go_wp2_with fail
    refine (first_any w).mono ?_
    rintro e' w1 ⟨rfl, h⟩
    have HB1 := Lib.hid h
    clear h
    go_wp2_with fail
    refine (first_any _).mono ?_
    rintro e' w2 ⟨rfl, h⟩
    have HB2 := Lib.hid (HB1.out.trans (h.mono HB1.out.size))
    clear h
    go_wp2
    go_ret
    exact ⟨rfl, HB2.out⟩
  · clear hbad
    go_enter Try.func11, Try.ntmps11
    go_wp2_with fail
    refine (first_any w).mono ?_
    rintro e' w1 ⟨rfl, h⟩
    have HB1 := Lib.hid h
    clear h
    go_wp2_with fail
    refine (first_any _).mono ?_
    rintro e' w2 ⟨rfl, h⟩
    have HB2 := Lib.hid (HB1.out.trans (h.mono HB1.out.size))
    clear h
    go_wp2
    go_ret
    exact ⟨rfl, HB2.out⟩
  · clear hbad
    go_enter Try.func11, Try.ntmps11
    go_wp2_with fail
    refine (first_any w).mono ?_
    rintro e' w1 ⟨rfl, h⟩
    have HB1 := Lib.hid h
    clear h
    go_wp2_with fail
    refine (first_any _).mono ?_
    rintro e' w2 ⟨rfl, h⟩
    have HB2 := Lib.hid (HB1.out.trans (h.mono HB1.out.size))
    clear h
    go_wp2
    go_ret
    exact ⟨rfl, HB2.out⟩
  · clear hbad
    go_enter Try.func11, Try.ntmps11
    go_wp2_with fail
    refine (first_any w).mono ?_
    rintro e' w1 ⟨rfl, h⟩
    have HB1 := Lib.hid h
    clear h
    go_wp2_with fail
    refine (first_any _).mono ?_
    rintro e' w2 ⟨rfl, h⟩
    have HB2 := Lib.hid (HB1.out.trans (h.mono HB1.out.size))
    clear h
    go_wp2
    go_ret
    exact ⟨rfl, HB2.out⟩

set_option maxHeartbeats 2000000 in
theorem whole_letters (n e r y x : Int) (f : Bool) (w : World) (h0 : ¬ n < -1000) (h1 : ¬ 1000 < n) (h2 : ¬ e < 1) (h3 : ¬ 1000 < e) (h4 : ¬ r < -1048576) (h5 : ¬ 1048576 < r) (hy : r * n = y) (hx : r * e = x) (ky : -2000000000 ≤ y ∧ y ≤ 2000000000) (kx : -2000000000 ≤ x ∧ x ≤ 2000000000)
    (c1 : clipV y M = y) (c2 : clipF y M = f) (v1 : valN n 1 0 r = y) (v2 : valN 1 e 0 x = r) (v3 : valN n e 0 0 = 0) : Calls Try.prog 11 #[.int .i64 n, .int .i64 e, .int .i64 r] w fun e' w' => e' = .returned (.bool true) ∧ Below w.heap.size w w' := by
  have C1 := Lib.hid c1
  have C2 := Lib.hid c2
  have V1 := Lib.hid v1
  have V2 := Lib.hid v2
  have V3 := Lib.hid v3
  clear c1 c2 v1 v2 v3
  go_enter Try.func11, Try.ntmps11
  go_wp2_with fail
  refine (first_any w).mono ?_
  rintro e' w1 ⟨rfl, h⟩
  have HB1 := Lib.hid h
  clear h
  go_wp2_with fail
  refine (clip32 y _).mono ?_
  rintro e' w' ⟨rfl, rfl⟩
  rw [C1.out, C2.out]
  go_wp2_with fail
  refine (first_any _).mono ?_
  rintro e' w2 ⟨rfl, h⟩
  have HB2 := Lib.hid (HB1.out.trans (h.mono HB1.out.size))
  clear h
  go_wp2_with fail
  refine (p_any n 1 0 _).mono ?_
  rintro e' w3 ⟨rfl, h⟩
  have HB3 := Lib.hid (HB2.out.trans (h.mono HB2.out.size))
  clear h
  go_wp2_with fail
  refine (val_any n 1 0 r _ (by omega)).mono ?_
  rintro e' w4 ⟨rfl, h⟩
  have HB4 := Lib.hid (HB3.out.trans (h.mono HB3.out.size))
  clear h
  rw [V1.out]
  go_wp2_with fail
  refine (p_any 1 e 0 _).mono ?_
  rintro e' w5 ⟨rfl, h⟩
  have HB5 := Lib.hid (HB4.out.trans (h.mono HB4.out.size))
  clear h
  go_wp2_with fail
  refine (val_any 1 e 0 x _ (by omega)).mono ?_
  rintro e' w6 ⟨rfl, h⟩
  have HB6 := Lib.hid (HB5.out.trans (h.mono HB5.out.size))
  clear h
  rw [V2.out]
  go_wp2_with fail
  refine (p_any n e 0 _).mono ?_
  rintro e' w7 ⟨rfl, h⟩
  have HB7 := Lib.hid (HB6.out.trans (h.mono HB6.out.size))
  clear h
  go_wp2_with fail
  refine (val_any n e 0 0 _ (by omega)).mono ?_
  rintro e' w8 ⟨rfl, h⟩
  have HB8 := Lib.hid (HB7.out.trans (h.mono HB7.out.size))
  clear h
  rw [V3.out]
  go_wp2
  go_ret
  exact ⟨rfl, HB8.out⟩
theorem whole_any (n e r : Int) (w : World) : Calls Try.prog 11 #[.int .i64 n, .int .i64 e, .int .i64 r] w fun e' w' => e' = .returned (.bool true) ∧ Below w.heap.size w w' := by
  by_cases hbad : n < -1000 ∨ 1000 < n ∨ e < 1 ∨ 1000 < e ∨ r < -1048576 ∨ 1048576 < r
  · exact whole_bad n e r w hbad
  · have hn : -1000 ≤ n ∧ n ≤ 1000 := by omega
    have he : 1 ≤ e ∧ e ≤ 1000 := by omega
    have ky := small_mul (r := r) (R := 1048576) (by omega) hn
    have ke := small_mul (r := r) (n := e) (R := 1048576) (by omega) (by omega)
    refine whole_letters n e r (r * n) (r * e) _ w (by omega) (by omega) (by omega) (by omega) (by omega) (by omega) rfl rfl (by omega) (by omega) (clip_id (by omega)) rfl ?_ ?_ ?_
    · rw [val_small (e := 1) hn (by omega) (by omega) (by omega) rfl (by omega), quot_one, Int.add_zero]
    · rw [val_small (n := 1) (y := r * e) (by omega) he (by omega) (by omega) (Int.mul_one _) (by omega), quot_mul he.1, Int.add_zero]
    · rw [val_small (r := 0) (y := 0) hn he (by omega) (by omega) (Int.zero_mul n) (by omega), show quotN 0 e = 0 from rfl, Int.zero_add]
end Go.Proofs.Ytpnmnghhcekfnaa
