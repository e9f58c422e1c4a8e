/- yardlaw5.ScaleNear answers true for every three numbers; memory that was there stands. -/
import Derived.Test.YtpnmnghhcekfnaaPure
namespace Go.Proofs.Ytpnmnghhcekfnaa
open Go.RowKit

set_option maxHeartbeats 2000000 in
/-- out of the bounds: nothing is asked but first. -/
theorem near_bad (n e r : Int) (w : World) (hbad : n < -1000 ∨ 1000 < n ∨ e < 1 ∨ 1000 < e ∨ r < -1048576 ∨ 1048576 < r) : Calls Try.prog 6 #[.int .i64 n, .int .i64 e, .int .i64 r] w fun e' w' => e' = .returned (.bool true) ∧ Below w.heap.size w w' := by
  rcases (by omega : n < -1000 ∨ (¬ n < -1000 ∧ 1000 < n) ∨ (¬ n < -1000 ∧ ¬ 1000 < n ∧ e < 1) ∨ (¬ n < -1000 ∧ ¬ 1000 < n ∧ ¬ e < 1 ∧ 1000 < e) ∨ (¬ n < -1000 ∧ ¬ 1000 < n ∧ ¬ e < 1 ∧ ¬ 1000 < e ∧ r < -1048576) ∨ (¬ n < -1000 ∧ ¬ 1000 < n ∧ ¬ e < 1 ∧ ¬ 1000 < e ∧ ¬ r < -1048576 ∧ 1048576 < r)) with h0 | ⟨h0, h1⟩ | ⟨h0, h1, h2⟩ | ⟨h0, h1, h2, h3⟩ | ⟨h0, h1, h2, h3, h4⟩ | ⟨h0, h1, h2, h3, h4, h5⟩
  · clear hbad
    go_enter Try.func6, Try.ntmps6
    go_wp2_with fail
    refine (first_any w).mono ?_
    rintro e' w1 ⟨rfl, h⟩
    have HB1 := Lib.hid h
    clear h
    go_wp2_with fail
    refine (first_any _).mono ?_
    rintro e' w2 ⟨rfl, h⟩
    have HB2 := Lib.hid (HB1.out.trans (h.mono HB1.out.size))
    clear h
    go_wp2
    go_ret
    exact ⟨rfl, HB2.out⟩
  · clear hbad
    go_enter Try.func6, Try.ntmps6
    go_wp2_with fail
    refine (first_any w).mono ?_
    rintro e' w1 ⟨rfl, h⟩
    have HB1 := Lib.hid h
    clear h
    go_wp2_with fail
    refine (first_any _).mono ?_
    rintro e' w2 ⟨rfl, h⟩
    have HB2 := Lib.hid (HB1.out.trans (h.mono HB1.out.size))
    clear h
    go_wp2
    go_ret
    exact ⟨rfl, HB2.out⟩
  · clear hbad
    go_enter Try.func6, Try.ntmps6
    go_wp2_with fail
    refine (first_any w).mono ?_
    rintro e' w1 ⟨rfl, h⟩
    have HB1 := Lib.hid h
    clear h
    go_wp2_with fail
    refine (first_any _).mono ?_
    rintro e' w2 ⟨rfl, h⟩
    have HB2 := Lib.hid (HB1.out.trans (h.mono HB1.out.size))
    clear h
    go_wp2
    go_ret
    exact ⟨rfl, HB2.out⟩
  · clear hbad
    go_enter Try.func6, Try.ntmps6
    go_wp2_with fail
    refine (first_any w).mono ?_
    rintro e' w1 ⟨rfl, h⟩
    have HB1 := Lib.hid h
    clear h
    go_wp2_with fail
    refine (first_any _).mono ?_
    rintro e' w2 ⟨rfl, h⟩
    have HB2 := Lib.hid (HB1.out.trans (h.mono HB1.out.size))
    clear h
    go_wp2
    go_ret
    exact ⟨rfl, HB2.out⟩
  · clear hbad
    go_enter Try.func6, Try.ntmps6
    go_wp2_with fail
    refine (first_any w).mono ?_
    rintro e' w1 ⟨rfl, h⟩
    have HB1 := Lib.hid h
    clear h
    go_wp2_with fail
    refine (first_any _).mono ?_
    rintro e' w2 ⟨rfl, h⟩
    have HB2 := Lib.hid (HB1.out.trans (h.mono HB1.out.size))
    clear h
    go_wp2
    go_ret
    exact ⟨rfl, HB2.out⟩
  · clear hbad
    go_enter Try.func6, Try.ntmps6
    go_wp2_with fail
    refine (first_any w).mono ?_
    rintro e' w1 ⟨rfl, h⟩
    have HB1 := Lib.hid h
    clear h
    go_wp2_with fail
    refine (first_any _).mono ?_
    rintro e' w2 ⟨rfl, h⟩
    have HB2 := Lib.hid (HB1.out.trans (h.mono HB1.out.size))
    clear h
    go_wp2
    go_ret
    exact ⟨rfl, HB2.out⟩

set_option maxHeartbeats 2000000 in
theorem near_letters (n e r v y x d : Int) (w : World) (h0 : ¬ n < -1000) (h1 : ¬ 1000 < n) (h2 : ¬ e < 1) (h3 : ¬ 1000 < e) (h4 : ¬ r < -1048576) (h5 : ¬ 1048576 < r) (hy : r * n = y) (hx : v * e = x) (hd : x - y = d)
    (kv : -2000000000 ≤ v ∧ v ≤ 2000000000) (ky : -2000000000 ≤ y ∧ y ≤ 2000000000) (k1 : 2 * d ≤ e) (k2 : -2 * d ≤ e)
    (v1 : valN n e 0 r = v) (v2 : valN (-n) e 0 r = -v) (v3 : valN n e 0 (-r) = -v) (v4 : valN n e 7 r = v + 7) : Calls Try.prog 6 #[.int .i64 n, .int .i64 e, .int .i64 r] w fun e' w' => e' = .returned (.bool true) ∧ Below w.heap.size w w' := by
  have V1 := Lib.hid v1
  have V2 := Lib.hid v2
  have V3 := Lib.hid v3
  have V4 := Lib.hid v4
  clear v1 v2 v3 v4
  by_cases hs : d < 0
  · go_enter Try.func6, Try.ntmps6
    go_wp2_with fail
    refine (first_any w).mono ?_
    rintro e' w1 ⟨rfl, h⟩
    have HB1 := Lib.hid h
    clear h
    go_wp2_with fail
    refine (p_any n e 0 _).mono ?_
    rintro e' w2 ⟨rfl, h⟩
    have HB2 := Lib.hid (HB1.out.trans (h.mono HB1.out.size))
    clear h
    go_wp2_with fail
    refine (val_any n e 0 r _ (by omega)).mono ?_
    rintro e' w3 ⟨rfl, h⟩
    have HB3 := Lib.hid (HB2.out.trans (h.mono HB2.out.size))
    clear h
    rw [V1.out]
    go_wp2_with fail
    refine (first_any _).mono ?_
    rintro e' w4 ⟨rfl, h⟩
    have HB4 := Lib.hid (HB3.out.trans (h.mono HB3.out.size))
    clear h
    go_wp2_with fail
    refine (p_any (-n) e 0 _).mono ?_
    rintro e' w5 ⟨rfl, h⟩
    have HB5 := Lib.hid (HB4.out.trans (h.mono HB4.out.size))
    clear h
    go_wp2_with fail
    refine (val_any (-n) e 0 r _ (by omega)).mono ?_
    rintro e' w6 ⟨rfl, h⟩
    have HB6 := Lib.hid (HB5.out.trans (h.mono HB5.out.size))
    clear h
    rw [V2.out]
    go_wp2_with fail
    refine (p_any n e 0 _).mono ?_
    rintro e' w7 ⟨rfl, h⟩
    have HB7 := Lib.hid (HB6.out.trans (h.mono HB6.out.size))
    clear h
    go_wp2_with fail
    refine (val_any n e 0 (-r) _ (by omega)).mono ?_
    rintro e' w8 ⟨rfl, h⟩
    have HB8 := Lib.hid (HB7.out.trans (h.mono HB7.out.size))
    clear h
    rw [V3.out]
    go_wp2_with fail
    refine (p_any n e 7 _).mono ?_
    rintro e' w9 ⟨rfl, h⟩
    have HB9 := Lib.hid (HB8.out.trans (h.mono HB8.out.size))
    clear h
    go_wp2_with fail
    refine (val_any n e 7 r _ (by omega)).mono ?_
    rintro e' w10 ⟨rfl, h⟩
    have HB10 := Lib.hid (HB9.out.trans (h.mono HB9.out.size))
    clear h
    rw [V4.out]
    go_wp2
    go_ret
    exact ⟨rfl, HB10.out⟩
  · go_enter Try.func6, Try.ntmps6
    go_wp2_with fail
    refine (first_any w).mono ?_
    rintro e' w1 ⟨rfl, h⟩
    have HB1 := Lib.hid h
    clear h
    go_wp2_with fail
    refine (p_any n e 0 _).mono ?_
    rintro e' w2 ⟨rfl, h⟩
    have HB2 := Lib.hid (HB1.out.trans (h.mono HB1.out.size))
    clear h
    go_wp2_with fail
    refine (val_any n e 0 r _ (by omega)).mono ?_
    rintro e' w3 ⟨rfl, h⟩
    have HB3 := Lib.hid (HB2.out.trans (h.mono HB2.out.size))
    clear h
    rw [V1.out]
    go_wp2_with fail
    refine (first_any _).mono ?_
    rintro e' w4 ⟨rfl, h⟩
    have HB4 := Lib.hid (HB3.out.trans (h.mono HB3.out.size))
    clear h
    go_wp2_with fail
    refine (p_any (-n) e 0 _).mono ?_
    rintro e' w5 ⟨rfl, h⟩
    have HB5 := Lib.hid (HB4.out.trans (h.mono HB4.out.size))
    clear h
    go_wp2_with fail
    refine (val_any (-n) e 0 r _ (by omega)).mono ?_
    rintro e' w6 ⟨rfl, h⟩
    have HB6 := Lib.hid (HB5.out.trans (h.mono HB5.out.size))
    clear h
    rw [V2.out]
    go_wp2_with fail
    refine (p_any n e 0 _).mono ?_
    rintro e' w7 ⟨rfl, h⟩
    have HB7 := Lib.hid (HB6.out.trans (h.mono HB6.out.size))
    clear h
    go_wp2_with fail
    refine (val_any n e 0 (-r) _ (by omega)).mono ?_
    rintro e' w8 ⟨rfl, h⟩
    have HB8 := Lib.hid (HB7.out.trans (h.mono HB7.out.size))
    clear h
    rw [V3.out]
    go_wp2_with fail
    refine (p_any n e 7 _).mono ?_
    rintro e' w9 ⟨rfl, h⟩
    have HB9 := Lib.hid (HB8.out.trans (h.mono HB8.out.size))
    clear h
    go_wp2_with fail
    refine (val_any n e 7 r _ (by omega)).mono ?_
    rintro e' w10 ⟨rfl, h⟩
    have HB10 := Lib.hid (HB9.out.trans (h.mono HB9.out.size))
    clear h
    rw [V4.out]
    go_wp2
    go_ret
    exact ⟨rfl, HB10.out⟩
theorem near_any (n e r : Int) (w : World) : Calls Try.prog 6 #[.int .i64 n, .int .i64 e, .int .i64 r] w fun e' w' => e' = .returned (.bool true) ∧ Below w.heap.size w w' := by
  by_cases hbad : n < -1000 ∨ 1000 < n ∨ e < 1 ∨ 1000 < e ∨ r < -1048576 ∨ 1048576 < r
  · exact near_bad n e r w hbad
  · have hn : -1000 ≤ n ∧ n ≤ 1000 := by omega
    have he : 1 ≤ e ∧ e ≤ 1000 := by omega
    have ky := small_mul (r := r) (R := 1048576) (by omega) hn
    have hq := quot_near (y := r * n) he.1
    refine near_letters n e r (quotN (r * n) e) (r * n) _ _ w (by omega) (by omega) (by omega) (by omega) (by omega) (by omega) rfl rfl rfl (by omega) (by omega) (by omega) (by omega) ?_ ?_ ?_ ?_
    · rw [val_small hn he (by omega) (by omega) rfl (by omega), Int.add_zero]
    · rw [val_small (y := -(r * n)) (by omega) he (by omega) (by omega) (Int.mul_neg _ _) (by omega), quot_odd, Int.add_zero]
    · rw [val_small (y := -(r * n)) hn he (by omega) (by omega) (Int.neg_mul _ _) (by omega), quot_odd, Int.add_zero]
    · rw [val_small hn he (by omega) (by omega) rfl (by omega)]
end Go.Proofs.Ytpnmnghhcekfnaa
