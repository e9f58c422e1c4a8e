/- yardlaw5.ScaleBounds answers true for every two numbers; memory that was there stands. -/
import Derived.Test.YtpnmnghhcekfnaaClips
namespace Go.Proofs.Ytpnmnghhcekfnaa
open Go.RowKit

set_option maxHeartbeats 1000000 in
theorem bounds_none (n b : Int) (w : World) (hw : within b 1 62 = false) : Calls Try.prog 9 #[.int .i64 n, .int .i64 b] w fun e w' => e = .returned (.bool true) ∧ Below w.heap.size w w' := by
  have HW := Lib.hid hw
  have hh : b < 1 ∨ (¬ b < 1 ∧ 62 < b) := by simp [within] at hw; omega
  clear hw
  rcases hh with hb | ⟨hb, hb'⟩
  · go_enter Try.func9, Try.ntmps9
    go_wp2_with fail
    refine (first_any w).mono ?_
    rintro e w1 ⟨rfl, h⟩
    have HB1 := Lib.hid h
    clear h
    go_wp2_with fail
    refine (clip_none n b _ HW.out).mono ?_
    rintro e w2 ⟨rfl, rfl⟩
    go_wp2_with fail
    refine (first_any _).mono ?_
    rintro e w2 ⟨rfl, h⟩
    have HB2 := Lib.hid (HB1.out.trans (h.mono HB1.out.size))
    clear h
    go_wp2
    go_ret
    exact ⟨rfl, HB2.out⟩
  · go_enter Try.func9, Try.ntmps9
    go_wp2_with fail
    refine (first_any w).mono ?_
    rintro e w1 ⟨rfl, h⟩
    have HB1 := Lib.hid h
    clear h
    go_wp2_with fail
    refine (clip_none n b _ HW.out).mono ?_
    rintro e w2 ⟨rfl, rfl⟩
    go_wp2_with fail
    refine (first_any _).mono ?_
    rintro e w2 ⟨rfl, h⟩
    have HB2 := Lib.hid (HB1.out.trans (h.mono HB1.out.size))
    clear h
    go_wp2
    go_ret
    exact ⟨rfl, HB2.out⟩

set_option maxHeartbeats 1000000 in
theorem bounds_low (n : Int) (k : Nat) (S : Int) (hk : k < 62) (hS : (2 : Int) ^ k = S) (h0 : 0 < S) (h1 : S ≤ 2305843009213693952) (w : World) (hn : n < -S) : Calls Try.prog 9 #[.int .i64 n, .int .i64 ((k : Int) + 1)] w fun e w' => e = .returned (.bool true) ∧ Below w.heap.size w w' := by
  have HC := Lib.hid (show clipV n S = -S ∧ clipF n S = true by constructor <;> simp [clipV, clipF] <;> omega)
  have HD := Lib.hid (show clipV (-S) S = -S ∧ clipF (-S) S = false by constructor <;> simp [clipV, clipF] <;> omega)
  have hne : (-S == n) = false := beq_eq_false_iff_ne.2 (by omega)
  have hlast : (-S == -(S - 1) - 1) = true := beq_iff_eq.2 (by omega)
  go_enter Try.func9, Try.ntmps9
  go_wp2_with fail
  refine (first_any w).mono ?_
  rintro e w1 ⟨rfl, h⟩
  have HB1 := Lib.hid h
  clear h
  go_wp2_with fail
  refine (clip_any n k S hk hS h0 h1 _).mono ?_
  rintro e w2 ⟨rfl, rfl⟩
  rw [HC.out.1, HC.out.2]
  go_wp2_with fail
  refine (clip_any (-S) k S hk hS h0 h1 _).mono ?_
  rintro e w2 ⟨rfl, rfl⟩
  rw [HD.out.1, HD.out.2]
  go_wp2_with fail
  refine (first_any _).mono ?_
  rintro e w2 ⟨rfl, h⟩
  have HB2 := Lib.hid (HB1.out.trans (h.mono HB1.out.size))
  clear h
  go_wp2
  go_ret
  exact ⟨rfl, HB2.out⟩

set_option maxHeartbeats 1000000 in
theorem bounds_high (n : Int) (k : Nat) (S : Int) (hk : k < 62) (hS : (2 : Int) ^ k = S) (h0 : 0 < S) (h1 : S ≤ 2305843009213693952) (w : World) (hn : S ≤ n) : Calls Try.prog 9 #[.int .i64 n, .int .i64 ((k : Int) + 1)] w fun e w' => e = .returned (.bool true) ∧ Below w.heap.size w w' := by
  have HC := Lib.hid (show clipV n S = S - 1 ∧ clipF n S = true by constructor <;> simp [clipV, clipF] <;> omega)
  have HD := Lib.hid (show clipV (S - 1) S = S - 1 ∧ clipF (S - 1) S = false by constructor <;> simp [clipV, clipF] <;> omega)
  have hne : (S - 1 == n) = false := beq_eq_false_iff_ne.2 (by omega)
  go_enter Try.func9, Try.ntmps9
  go_wp2_with fail
  refine (first_any w).mono ?_
  rintro e w1 ⟨rfl, h⟩
  have HB1 := Lib.hid h
  clear h
  go_wp2_with fail
  refine (clip_any n k S hk hS h0 h1 _).mono ?_
  rintro e w2 ⟨rfl, rfl⟩
  rw [HC.out.1, HC.out.2]
  go_wp2_with fail
  refine (clip_any (S - 1) k S hk hS h0 h1 _).mono ?_
  rintro e w2 ⟨rfl, rfl⟩
  rw [HD.out.1, HD.out.2]
  go_wp2_with fail
  refine (first_any _).mono ?_
  rintro e w2 ⟨rfl, h⟩
  have HB2 := Lib.hid (HB1.out.trans (h.mono HB1.out.size))
  clear h
  go_wp2
  go_ret
  exact ⟨rfl, HB2.out⟩

set_option maxHeartbeats 1000000 in
theorem bounds_in (n : Int) (k : Nat) (S : Int) (hk : k < 62) (hS : (2 : Int) ^ k = S) (h0 : 0 < S) (h1 : S ≤ 2305843009213693952) (w : World) (hn : -S ≤ n) (hn' : n < S) : Calls Try.prog 9 #[.int .i64 n, .int .i64 ((k : Int) + 1)] w fun e w' => e = .returned (.bool true) ∧ Below w.heap.size w w' := by
  have HC := Lib.hid (show clipV n S = n ∧ clipF n S = false by constructor <;> simp [clipV, clipF] <;> omega)
  have HD := Lib.hid (show clipV (n) S = n ∧ clipF (n) S = false by constructor <;> simp [clipV, clipF] <;> omega)
  go_enter Try.func9, Try.ntmps9
  go_wp2_with fail
  refine (first_any w).mono ?_
  rintro e w1 ⟨rfl, h⟩
  have HB1 := Lib.hid h
  clear h
  go_wp2_with fail
  refine (clip_any n k S hk hS h0 h1 _).mono ?_
  rintro e w2 ⟨rfl, rfl⟩
  rw [HC.out.1, HC.out.2]
  go_wp2_with fail
  refine (clip_any (n) k S hk hS h0 h1 _).mono ?_
  rintro e w2 ⟨rfl, rfl⟩
  rw [HD.out.1, HD.out.2]
  go_wp2_with fail
  refine (first_any _).mono ?_
  rintro e w2 ⟨rfl, h⟩
  have HB2 := Lib.hid (HB1.out.trans (h.mono HB1.out.size))
  clear h
  go_wp2
  go_ret
  exact ⟨rfl, HB2.out⟩
theorem bounds_any (n b : Int) (w : World) : Calls Try.prog 9 #[.int .i64 n, .int .i64 b] w fun e w' => e = .returned (.bool true) ∧ Below w.heap.size w w' := by
  rcases Bool.eq_false_or_eq_true (within b 1 62) with h | h
  · obtain ⟨k, hk, rfl, h0, h1⟩ := bits_of h
    by_cases hl : n < -2 ^ k
    · exact bounds_low n k _ hk rfl h0 h1 w hl
    · by_cases hh : 2 ^ k ≤ n
      · exact bounds_high n k _ hk rfl h0 h1 w hh
      · exact bounds_in n k _ hk rfl h0 h1 w (by omega) (by omega)
  · exact bounds_none n b w h
end Go.Proofs.Ytpnmnghhcekfnaa
