/- yardlaw5.ScaleMoves answers true for every four numbers; memory that was there stands. -/
import Derived.Test.YtpnmnghhcekfnaaPure
namespace Go.Proofs.Ytpnmnghhcekfnaa
open Go.RowKit

set_option maxHeartbeats 2000000 in
/-- out of the bounds: nothing is asked but first. -/
theorem moves_bad (n e o r : Int) (w : World) (hbad : n < -1000 ∨ 1000 < n ∨ e < 1 ∨ 1000 < e ∨ o < -1000000 ∨ 1000000 < o ∨ r < -32768 ∨ 65536 < r) : Calls Try.prog 10 #[.int .i64 n, .int .i64 e, .int .i64 o, .int .i64 r] w fun e' w' => e' = .returned (.bool true) ∧ Below w.heap.size w w' := by
  rcases (by omega : n < -1000 ∨ (¬ n < -1000 ∧ 1000 < n) ∨ (¬ n < -1000 ∧ ¬ 1000 < n ∧ e < 1) ∨ (¬ n < -1000 ∧ ¬ 1000 < n ∧ ¬ e < 1 ∧ 1000 < e) ∨ (¬ n < -1000 ∧ ¬ 1000 < n ∧ ¬ e < 1 ∧ ¬ 1000 < e ∧ o < -1000000) ∨ (¬ n < -1000 ∧ ¬ 1000 < n ∧ ¬ e < 1 ∧ ¬ 1000 < e ∧ ¬ o < -1000000 ∧ 1000000 < o) ∨ (¬ n < -1000 ∧ ¬ 1000 < n ∧ ¬ e < 1 ∧ ¬ 1000 < e ∧ ¬ o < -1000000 ∧ ¬ 1000000 < o ∧ r < -32768) ∨ (¬ n < -1000 ∧ ¬ 1000 < n ∧ ¬ e < 1 ∧ ¬ 1000 < e ∧ ¬ o < -1000000 ∧ ¬ 1000000 < o ∧ ¬ r < -32768 ∧ 65536 < r)) with h0 | ⟨h0, h1⟩ | ⟨h0, h1, h2⟩ | ⟨h0, h1, h2, h3⟩ | ⟨h0, h1, h2, h3, h4⟩ | ⟨h0, h1, h2, h3, h4, h5⟩ | ⟨h0, h1, h2, h3, h4, h5, h6⟩ | ⟨h0, h1, h2, h3, h4, h5, h6, h7⟩
  · clear hbad
    go_enter Try.func10, Try.ntmps10
    go_wp2_with fail
    refine (first_any w).mono ?_
    rintro e' w1 ⟨rfl, h⟩
    have HB1 := Lib.hid h
    clear h
    go_wp2_with fail
    refine (first_any _).mono ?_
    rintro e' w2 ⟨rfl, h⟩
    have HB2 := Lib.hid (HB1.out.trans (h.mono HB1.out.size))
    clear h
    go_wp2
    go_ret
    exact ⟨rfl, HB2.out⟩
  · clear hbad
    go_enter Try.func10, Try.ntmps10
    go_wp2_with fail
    refine (first_any w).mono ?_
    rintro e' w1 ⟨rfl, h⟩
    have HB1 := Lib.hid h
    clear h
    go_wp2_with fail
    refine (first_any _).mono ?_
    rintro e' w2 ⟨rfl, h⟩
    have HB2 := Lib.hid (HB1.out.trans (h.mono HB1.out.size))
    clear h
    go_wp2
    go_ret
    exact ⟨rfl, HB2.out⟩
  · clear hbad
    go_enter Try.func10, Try.ntmps10
    go_wp2_with fail
    refine (first_any w).mono ?_
    rintro e' w1 ⟨rfl, h⟩
    have HB1 := Lib.hid h
    clear h
    go_wp2_with fail
    refine (first_any _).mono ?_
    rintro e' w2 ⟨rfl, h⟩
    have HB2 := Lib.hid (HB1.out.trans (h.mono HB1.out.size))
    clear h
    go_wp2
    go_ret
    exact ⟨rfl, HB2.out⟩
  · clear hbad
    go_enter Try.func10, Try.ntmps10
    go_wp2_with fail
    refine (first_any w).mono ?_
    rintro e' w1 ⟨rfl, h⟩
    have HB1 := Lib.hid h
    clear h
    go_wp2_with fail
    refine (first_any _).mono ?_
    rintro e' w2 ⟨rfl, h⟩
    have HB2 := Lib.hid (HB1.out.trans (h.mono HB1.out.size))
    clear h
    go_wp2
    go_ret
    exact ⟨rfl, HB2.out⟩
  · clear hbad
    go_enter Try.func10, Try.ntmps10
    go_wp2_with fail
    refine (first_any w).mono ?_
    rintro e' w1 ⟨rfl, h⟩
    have HB1 := Lib.hid h
    clear h
    go_wp2_with fail
    refine (first_any _).mono ?_
    rintro e' w2 ⟨rfl, h⟩
    have HB2 := Lib.hid (HB1.out.trans (h.mono HB1.out.size))
    clear h
    go_wp2
    go_ret
    exact ⟨rfl, HB2.out⟩
  · clear hbad
    go_enter Try.func10, Try.ntmps10
    go_wp2_with fail
    refine (first_any w).mono ?_
    rintro e' w1 ⟨rfl, h⟩
    have HB1 := Lib.hid h
    clear h
    go_wp2_with fail
    refine (first_any _).mono ?_
    rintro e' w2 ⟨rfl, h⟩
    have HB2 := Lib.hid (HB1.out.trans (h.mono HB1.out.size))
    clear h
    go_wp2
    go_ret
    exact ⟨rfl, HB2.out⟩
  · clear hbad
    go_enter Try.func10, Try.ntmps10
    go_wp2_with fail
    refine (first_any w).mono ?_
    rintro e' w1 ⟨rfl, h⟩
    have HB1 := Lib.hid h
    clear h
    go_wp2_with fail
    refine (first_any _).mono ?_
    rintro e' w2 ⟨rfl, h⟩
    have HB2 := Lib.hid (HB1.out.trans (h.mono HB1.out.size))
    clear h
    go_wp2
    go_ret
    exact ⟨rfl, HB2.out⟩
  · clear hbad
    go_enter Try.func10, Try.ntmps10
    go_wp2_with fail
    refine (first_any w).mono ?_
    rintro e' w1 ⟨rfl, h⟩
    have HB1 := Lib.hid h
    clear h
    go_wp2_with fail
    refine (first_any _).mono ?_
    rintro e' w2 ⟨rfl, h⟩
    have HB2 := Lib.hid (HB1.out.trans (h.mono HB1.out.size))
    clear h
    go_wp2
    go_ret
    exact ⟨rfl, HB2.out⟩

set_option maxHeartbeats 2000000 in
theorem moves_letters (n e o r v : Int) (w : World) (h0 : ¬ n < -1000) (h1 : ¬ 1000 < n) (h2 : ¬ e < 1) (h3 : ¬ 1000 < e) (h4 : ¬ o < -1000000) (h5 : ¬ 1000000 < o) (h6 : ¬ r < -32768) (h7 : ¬ 65536 < r)
    (kv : -2000000000 ≤ v ∧ v ≤ 2000000000)
    (v1 : valN n e o r = v + o) (v2 : valN n e 0 r = v) (v3 : valN e e 0 r = r) (v4 : valN 0 e o r = o) : Calls Try.prog 10 #[.int .i64 n, .int .i64 e, .int .i64 o, .int .i64 r] w fun e' w' => e' = .returned (.bool true) ∧ Below w.heap.size w w' := by
  have V1 := Lib.hid v1
  have V2 := Lib.hid v2
  have V3 := Lib.hid v3
  have V4 := Lib.hid v4
  clear v1 v2 v3 v4
  go_enter Try.func10, Try.ntmps10
  go_wp2_with fail
  refine (first_any w).mono ?_
  rintro e' w1 ⟨rfl, h⟩
  have HB1 := Lib.hid h
  clear h
  go_wp2_with fail
  refine (p_any n e o _).mono ?_
  rintro e' w2 ⟨rfl, h⟩
  have HB2 := Lib.hid (HB1.out.trans (h.mono HB1.out.size))
  clear h
  go_wp2_with fail
  refine (val_any n e o r _ (by omega)).mono ?_
  rintro e' w3 ⟨rfl, h⟩
  have HB3 := Lib.hid (HB2.out.trans (h.mono HB2.out.size))
  clear h
  rw [V1.out]
  go_wp2_with fail
  refine (p_any n e 0 _).mono ?_
  rintro e' w4 ⟨rfl, h⟩
  have HB4 := Lib.hid (HB3.out.trans (h.mono HB3.out.size))
  clear h
  go_wp2_with fail
  refine (val_any n e 0 r _ (by omega)).mono ?_
  rintro e' w5 ⟨rfl, h⟩
  have HB5 := Lib.hid (HB4.out.trans (h.mono HB4.out.size))
  clear h
  rw [V2.out]
  go_wp2_with fail
  refine (first_any _).mono ?_
  rintro e' w6 ⟨rfl, h⟩
  have HB6 := Lib.hid (HB5.out.trans (h.mono HB5.out.size))
  clear h
  go_wp2_with fail
  refine (p_any e e 0 _).mono ?_
  rintro e' w7 ⟨rfl, h⟩
  have HB7 := Lib.hid (HB6.out.trans (h.mono HB6.out.size))
  clear h
  go_wp2_with fail
  refine (val_any e e 0 r _ (by omega)).mono ?_
  rintro e' w8 ⟨rfl, h⟩
  have HB8 := Lib.hid (HB7.out.trans (h.mono HB7.out.size))
  clear h
  rw [V3.out]
  go_wp2_with fail
  refine (p_any 0 e o _).mono ?_
  rintro e' w9 ⟨rfl, h⟩
  have HB9 := Lib.hid (HB8.out.trans (h.mono HB8.out.size))
  clear h
  go_wp2_with fail
  refine (val_any 0 e o r _ (by omega)).mono ?_
  rintro e' w10 ⟨rfl, h⟩
  have HB10 := Lib.hid (HB9.out.trans (h.mono HB9.out.size))
  clear h
  rw [V4.out]
  go_wp2
  go_ret
  exact ⟨rfl, HB10.out⟩
theorem moves_any (n e o r : Int) (w : World) : Calls Try.prog 10 #[.int .i64 n, .int .i64 e, .int .i64 o, .int .i64 r] w fun e' w' => e' = .returned (.bool true) ∧ Below w.heap.size w w' := by
  by_cases hbad : n < -1000 ∨ 1000 < n ∨ e < 1 ∨ 1000 < e ∨ o < -1000000 ∨ 1000000 < o ∨ r < -32768 ∨ 65536 < r
  · exact moves_bad n e o r w hbad
  · have hn : -1000 ≤ n ∧ n ≤ 1000 := by omega
    have he : 1 ≤ e ∧ e ≤ 1000 := by omega
    have ho : -1000000 ≤ o ∧ o ≤ 1000000 := by omega
    have ky := small_mul (r := r) (R := 65536) (by omega) hn
    have ke := small_mul (r := r) (n := e) (R := 65536) (by omega) (by omega)
    have hq := quot_near (y := r * n) he.1
    refine moves_letters n e o r (quotN (r * n) e) w (by omega) (by omega) (by omega) (by omega) (by omega) (by omega) (by omega) (by omega) (by omega) ?_ ?_ ?_ ?_
    · exact val_small hn he ho (by omega) rfl (by omega)
    · rw [val_small hn he (by omega) (by omega) rfl (by omega), Int.add_zero]
    · rw [val_small (y := r * e) (by omega) he (by omega) (by omega) rfl (by omega), quot_mul he.1, Int.add_zero]
    · rw [val_small (y := 0) (by omega) he ho (by omega) (Int.mul_zero r) (by omega), show quotN 0 e = 0 from rfl, Int.zero_add]
end Go.Proofs.Ytpnmnghhcekfnaa
