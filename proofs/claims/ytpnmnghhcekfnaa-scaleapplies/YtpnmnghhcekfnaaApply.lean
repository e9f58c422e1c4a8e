/- scale.Apply and the document's Apply: what each returns; memory that was there stands. -/
import Derived.Test.YtpnmnghhcekfnaaMay
import Derived.Deep.QuietTactic
import Derived.BigQuiet
import Derived.WalkSmall
namespace Go.Proofs.Ytpnmnghhcekfnaa
open Go.RowKit

/-- a raw number within its bounds. -/
def lim (r : Int) : Int := if r < -2147483648 then -2147483648 else if 4294967295 < r then 4294967295 else r
def applyN (d n e o r : Int) : Int := if mayN d n e o then clipV (quotN (lim r * n) e + o) M else 0
theorem lim_bounds (r : Int) : -2147483648 ≤ lim r ∧ lim r ≤ 4294967295 := by unfold lim; omega
theorem mul_bounds {x n : Int} (hx : -2147483648 ≤ x ∧ x ≤ 4294967295) (hn : -1000 ≤ n ∧ n ≤ 1000) : -4294967295000 ≤ x * n ∧ x * n ≤ 4294967295000 := by
  have h := Int.natAbs_mul x n
  have h2 : x.natAbs * n.natAbs ≤ 4294967295 * 1000 := Nat.mul_le_mul (by omega) (by omega)
  omega
theorem may_bounds {d n e o : Int} (h : mayN d n e o = true) : (-1000 ≤ n ∧ n ≤ 1000) ∧ (1 ≤ e ∧ e ≤ 1000) ∧ (-1000000 ≤ o ∧ o ≤ 1000000) ∧ 0 ≤ d ∧ d ≤ 1000000 := by
  simp [mayN, within] at h
  omega
theorem quot_bounds {n d : Int} (hn : -4294967295000 ≤ n ∧ n ≤ 4294967295000) (hd : 1 ≤ d ∧ d ≤ 1000) : -8589934592000 ≤ quotN n d ∧ quotN n d ≤ 8589934592000 := by
  have key : ∀ m : Int, 0 ≤ m → m ≤ 4294967295000 → 0 ≤ (2 * m + d) / (2 * d) ∧ (2 * m + d) / (2 * d) ≤ 8589934592000 := fun m h0 h1 =>
    ⟨Int.ediv_nonneg (by omega) (by omega), Int.le_trans (Int.ediv_le_self _ (by omega)) (by omega)⟩
  unfold quotN
  split
  · have := key n (by omega) (by omega)
    omega
  · split
    · have := key (-n) (by omega) (by omega)
      omega
    · omega
/-- the document's way to round. -/
theorem round_half {y e : Int} (he : 1 ≤ e) : (2 * y + e) / (2 * e) = (y + e / 2) / e := by
  have h1 := Int.mul_ediv_self_le (x := y + e / 2) (k := e) (by omega)
  have h2 := Int.lt_mul_ediv_self_add (x := y + e / 2) (k := e) (by omega)
  generalize (y + e / 2) / e = q at *
  have h3 : q * (2 * e) = 2 * (e * q) := by rw [Int.mul_comm q, Int.mul_assoc]
  have h4 : (q + 1) * (2 * e) = 2 * (e * q) + 2 * e := by rw [Int.add_mul, h3, Int.one_mul]
  exact Int.le_antisymm (Int.lt_add_one_iff.1 ((Int.ediv_lt_iff_lt_mul (by omega)).2 (by omega))) ((Int.le_ediv_iff_mul_le (by omega)).2 (by omega))
theorem quot_pos {y e : Int} (h : ¬ y < 0) (he : 1 ≤ e) : quotN y e = (y + e / 2) / e := by
  by_cases h0 : 0 < y
  · rw [quotN, if_pos h0, round_half he]
  · have : y = 0 := by omega
    subst this
    rw [quotN, if_neg (by omega), if_neg (by omega), ← round_half he]
    exact (Int.ediv_eq_zero_of_lt (by omega) (by omega)).symm
theorem quot_neg' {y e : Int} (h : y < 0) (he : 1 ≤ e) : quotN y e = (y - e / 2).tdiv e := by
  rw [quotN, if_neg (by omega), if_pos h, round_half he, show y - e / 2 = -(-y + e / 2) by omega, Int.neg_tdiv, Int.tdiv_eq_ediv_of_nonneg (by omega)]

theorem box_cell {w : World} {cs : Array Value} {t : TypeId} {w1 : World} (hb : Below (w.alloc (.cells cs t)).heap.size (w.alloc (.cells cs t)) w1) (i : Nat) (v : Value) (h : cs[i]? = some v) : w1.cell? ⟨w.heap.size, i, none⟩ = some v := by
  rw [hb.cell (by simp)]
  have hb : (w.alloc (.cells cs t)).heap[w.heap.size]? = some (.cells cs t) := heap_alloc_new w _
  simp only [World.cell?, hb]
  exact h
theorem apply_no (k q l c d n e o r : Int) (w : World) (h : mayN d n e o = false) : Calls Try.prog 15 #[.agg #[.int .i64 k, .int .i64 q, .int .i64 l, .int .i64 c, .int .i64 d, .int .i64 n, .int .i64 e, .int .i64 o], .int .i64 r] w fun e' w' => e' = .returned (.int .i64 0) ∧ Below w.heap.size w w' := by
  have HB := Lib.hid (below_box w (.cells #[.int .i64 k, .int .i64 q, .int .i64 l, .int .i64 c, .int .i64 d, .int .i64 n, .int .i64 e, .int .i64 o] 23))
  go_enter Try.func15, Try.ntmps15
  go_wp2_with fail
  refine (may_any k q l c d n e o _).mono ?_
  rintro e' w1 ⟨rfl, hb⟩
  have HB1 := Lib.hid (HB.out.trans (hb.mono HB.out.size))
  clear hb
  rw [h]
  go_wp2
  go_ret
  exact ⟨rfl, HB1.out⟩

theorem quot_q {y e z : Int} (hz : quotN y e = z) (hy : -4294967295000 ≤ y ∧ y ≤ 4294967295000) (he : 1 ≤ e ∧ e ≤ 1000) (w : World) : Calls Try.prog 25 #[.int .i64 y, .int .i64 e] w fun e' w' => e' = .returned (.int .i64 z) ∧ w' = w :=
  hz ▸ (quot_any y e w (by omega) (by omega) he.1 he.2).mono fun _ _ h => ⟨h.1, h.2.symm⟩
theorem clip_q (n : Int) (w : World) : Calls Try.prog 19 #[.int .i64 n, .int .i64 32] w fun e w' => e = .returned (.tuple #[.int .i64 (clipV n M), .bool (clipF n M)]) ∧ w' = w := (clip32 n w).mono fun _ _ h => ⟨h.1, h.2.symm⟩
set_option maxHeartbeats 400000 in
theorem apply_yes (k q l c d n e o r x y z : Int) (w : World) (h : mayN d n e o = true) (hr : -9223372036854775808 ≤ r ∧ r ≤ 9223372036854775807) (hx : lim r = x) (hy : x * n = y) (hz : quotN y e = z) : Calls Try.prog 15 #[.agg #[.int .i64 k, .int .i64 q, .int .i64 l, .int .i64 c, .int .i64 d, .int .i64 n, .int .i64 e, .int .i64 o], .int .i64 r] w fun e' w' => e' = .returned (.int .i64 (clipV (z + o) M)) ∧ Below w.heap.size w w' := by
  have HB := Lib.hid (below_box w (.cells #[.int .i64 k, .int .i64 q, .int .i64 l, .int .i64 c, .int .i64 d, .int .i64 n, .int .i64 e, .int .i64 o] 23))
  obtain ⟨hn, he, ho, _⟩ := may_bounds h
  have hxb := lim_bounds r
  rw [hx] at hxb
  have hyb := mul_bounds hxb hn
  rw [hy] at hyb
  have hzb := quot_bounds (d := e) hyb he
  rw [hz] at hzb
  have HZ := Lib.hid hz
  clear hz
  have hmul : IntKind.i64.wrap y = y := by rw [IntKind.wrap_i64]; omega
  rcases (by omega : r < -2147483648 ∨ (¬ r < -2147483648 ∧ 4294967295 < r) ∨ (¬ r < -2147483648 ∧ ¬ 4294967295 < r)) with hk | ⟨hk, hk'⟩ | ⟨hk, hk'⟩
  · have hxx : (-2147483648 : Int) = x := by rw [← hx, lim, if_pos hk]
    have HX := Lib.hid hxx
    clear hx hxx
    go_enter Try.func15, Try.ntmps15
    go_wp2_with fail
    refine (may_any k q l c d n e o _).mono ?_
    rintro e' w1 ⟨rfl, hb⟩
    have c5 : w1.cell? ⟨w.heap.size, 5, none⟩ = some (.int .i64 n) := box_cell hb 5 _ rfl
    have c6 : w1.cell? ⟨w.heap.size, 6, none⟩ = some (.int .i64 e) := box_cell hb 6 _ rfl
    have c7 : w1.cell? ⟨w.heap.size, 7, none⟩ = some (.int .i64 o) := box_cell hb 7 _ rfl
    have HB1 := Lib.hid (HB.out.trans (hb.mono HB.out.size))
    clear hb
    rw [h]
    go_wp2
    rw [HX.out]
    go_quiet (first | (go_at_call 25; exact Calls.quiet_of_same (quot_q HZ.out hyb he _)) | (go_at_call 19; exact Calls.quiet_of_same (clip_q _ _)))
    go_wp2
    go_ret
    exact ⟨rfl, below_drewN HB1.out _⟩
  · have hxx : (4294967295 : Int) = x := by rw [← hx, lim, if_neg hk, if_pos hk']
    have HX := Lib.hid hxx
    clear hx hxx
    go_enter Try.func15, Try.ntmps15
    go_wp2_with fail
    refine (may_any k q l c d n e o _).mono ?_
    rintro e' w1 ⟨rfl, hb⟩
    have c5 : w1.cell? ⟨w.heap.size, 5, none⟩ = some (.int .i64 n) := box_cell hb 5 _ rfl
    have c6 : w1.cell? ⟨w.heap.size, 6, none⟩ = some (.int .i64 e) := box_cell hb 6 _ rfl
    have c7 : w1.cell? ⟨w.heap.size, 7, none⟩ = some (.int .i64 o) := box_cell hb 7 _ rfl
    have HB1 := Lib.hid (HB.out.trans (hb.mono HB.out.size))
    clear hb
    rw [h]
    go_wp2
    rw [HX.out]
    go_quiet (first | (go_at_call 25; exact Calls.quiet_of_same (quot_q HZ.out hyb he _)) | (go_at_call 19; exact Calls.quiet_of_same (clip_q _ _)))
    go_wp2
    go_ret
    exact ⟨rfl, below_drewN HB1.out _⟩
  · have hxx : r = x := by rw [← hx, lim, if_neg hk, if_neg hk']
    have HX := Lib.hid hxx
    clear hx hxx
    go_enter Try.func15, Try.ntmps15
    go_wp2_with fail
    refine (may_any k q l c d n e o _).mono ?_
    rintro e' w1 ⟨rfl, hb⟩
    have c5 : w1.cell? ⟨w.heap.size, 5, none⟩ = some (.int .i64 n) := box_cell hb 5 _ rfl
    have c6 : w1.cell? ⟨w.heap.size, 6, none⟩ = some (.int .i64 e) := box_cell hb 6 _ rfl
    have c7 : w1.cell? ⟨w.heap.size, 7, none⟩ = some (.int .i64 o) := box_cell hb 7 _ rfl
    have HB1 := Lib.hid (HB.out.trans (hb.mono HB.out.size))
    clear hb
    rw [h]
    go_wp2
    rw [HX.out]
    go_quiet (first | (go_at_call 25; exact Calls.quiet_of_same (quot_q HZ.out hyb he _)) | (go_at_call 19; exact Calls.quiet_of_same (clip_q _ _)))
    go_wp2
    go_ret
    exact ⟨rfl, below_drewN HB1.out _⟩

theorem apply_any (k q l c d n e o r : Int) (w : World) (hr : -9223372036854775808 ≤ r ∧ r ≤ 9223372036854775807) : Calls Try.prog 15 #[.agg #[.int .i64 k, .int .i64 q, .int .i64 l, .int .i64 c, .int .i64 d, .int .i64 n, .int .i64 e, .int .i64 o], .int .i64 r] w fun e' w' => e' = .returned (.int .i64 (applyN d n e o r)) ∧ Below w.heap.size w w' := by
  rcases Bool.eq_false_or_eq_true (mayN d n e o) with h | h
  · rw [show applyN d n e o r = clipV (quotN (lim r * n) e + o) M by rw [applyN, h]; rfl]
    exact apply_yes k q l c d n e o r _ _ _ w h hr rfl rfl rfl
  · rw [show applyN d n e o r = 0 by rw [applyN, h]; rfl]
    exact apply_no k q l c d n e o r w h

theorem rapply_no (k q l c d n e o r : Int) (w : World) (h : mayN d n e o = false) : Calls Try.prog 16 #[.agg #[.int .i64 k, .int .i64 q, .int .i64 l, .int .i64 c, .int .i64 d, .int .i64 n, .int .i64 e, .int .i64 o], .int .i64 r] w fun e' w' => e' = .returned (.int .i64 0) ∧ Below w.heap.size w w' := by
  have HB := Lib.hid (below_box w (.cells #[.int .i64 k, .int .i64 q, .int .i64 l, .int .i64 c, .int .i64 d, .int .i64 n, .int .i64 e, .int .i64 o] 23))
  go_enter Try.func16, Try.ntmps16
  go_wp2_with fail
  refine (rmay_any k q l c d n e o _).mono ?_
  rintro e' w1 ⟨rfl, hb⟩
  have HB1 := Lib.hid (HB.out.trans (hb.mono HB.out.size))
  clear hb
  rw [h]
  go_wp2
  go_ret
  exact ⟨rfl, HB1.out⟩

set_option maxHeartbeats 400000 in
theorem rapply_yes (k q l c d n e o r x y z : Int) (w : World) (h : mayN d n e o = true) (hr : -9223372036854775808 ≤ r ∧ r ≤ 9223372036854775807) (hx : lim r = x) (hy : x * n = y) (hz : quotN y e = z) : Calls Try.prog 16 #[.agg #[.int .i64 k, .int .i64 q, .int .i64 l, .int .i64 c, .int .i64 d, .int .i64 n, .int .i64 e, .int .i64 o], .int .i64 r] w fun e' w' => e' = .returned (.int .i64 (clipV (z + o) M)) ∧ Below w.heap.size w w' := by
  have HB := Lib.hid (below_box w (.cells #[.int .i64 k, .int .i64 q, .int .i64 l, .int .i64 c, .int .i64 d, .int .i64 n, .int .i64 e, .int .i64 o] 23))
  obtain ⟨hn, he, ho, _⟩ := may_bounds h
  have hxb := lim_bounds r
  rw [hx] at hxb
  have hyb := mul_bounds hxb hn
  rw [hy] at hyb
  have hzb := quot_bounds (d := e) hyb he
  rw [hz] at hzb
  have hmul : IntKind.i64.wrap y = y := by rw [IntKind.wrap_i64]; omega
  rcases (by omega : r < -2147483648 ∨ (¬ r < -2147483648 ∧ 4294967295 < r) ∨ (¬ r < -2147483648 ∧ ¬ 4294967295 < r)) with hk | ⟨hk, hk'⟩ | ⟨hk, hk'⟩
  · have hxx : (-2147483648 : Int) = x := by rw [← hx, lim, if_pos hk]
    subst hxx
    clear hx
    by_cases hs : y < 0
    · have hq := (quot_neg' hs he.1).symm.trans hz
      clear hz
      go_enter Try.func16, Try.ntmps16
      go_wp2_with fail
      refine (rmay_any k q l c d n e o _).mono ?_
      rintro e' w1 ⟨rfl, hb⟩
      have c5 : w1.cell? ⟨w.heap.size, 5, none⟩ = some (.int .i64 n) := box_cell hb 5 _ rfl
      have c6 : w1.cell? ⟨w.heap.size, 6, none⟩ = some (.int .i64 e) := box_cell hb 6 _ rfl
      have c7 : w1.cell? ⟨w.heap.size, 7, none⟩ = some (.int .i64 o) := box_cell hb 7 _ rfl
      have HB1 := Lib.hid (HB.out.trans (hb.mono HB.out.size))
      clear hb
      rw [h]
      go_wp2_with fail
      refine (rclip32 (z + o) _).mono ?_
      rintro e' w2 ⟨rfl, rfl⟩
      go_wp2
      go_ret
      exact ⟨rfl, HB1.out⟩
    · have hq := (quot_pos hs he.1).symm.trans hz
      clear hz
      go_enter Try.func16, Try.ntmps16
      go_wp2_with fail
      refine (rmay_any k q l c d n e o _).mono ?_
      rintro e' w1 ⟨rfl, hb⟩
      have c5 : w1.cell? ⟨w.heap.size, 5, none⟩ = some (.int .i64 n) := box_cell hb 5 _ rfl
      have c6 : w1.cell? ⟨w.heap.size, 6, none⟩ = some (.int .i64 e) := box_cell hb 6 _ rfl
      have c7 : w1.cell? ⟨w.heap.size, 7, none⟩ = some (.int .i64 o) := box_cell hb 7 _ rfl
      have HB1 := Lib.hid (HB.out.trans (hb.mono HB.out.size))
      clear hb
      rw [h]
      go_wp2_with fail
      refine (rclip32 (z + o) _).mono ?_
      rintro e' w2 ⟨rfl, rfl⟩
      go_wp2
      go_ret
      exact ⟨rfl, HB1.out⟩
  · have hxx : (4294967295 : Int) = x := by rw [← hx, lim, if_neg hk, if_pos hk']
    subst hxx
    clear hx
    by_cases hs : y < 0
    · have hq := (quot_neg' hs he.1).symm.trans hz
      clear hz
      go_enter Try.func16, Try.ntmps16
      go_wp2_with fail
      refine (rmay_any k q l c d n e o _).mono ?_
      rintro e' w1 ⟨rfl, hb⟩
      have c5 : w1.cell? ⟨w.heap.size, 5, none⟩ = some (.int .i64 n) := box_cell hb 5 _ rfl
      have c6 : w1.cell? ⟨w.heap.size, 6, none⟩ = some (.int .i64 e) := box_cell hb 6 _ rfl
      have c7 : w1.cell? ⟨w.heap.size, 7, none⟩ = some (.int .i64 o) := box_cell hb 7 _ rfl
      have HB1 := Lib.hid (HB.out.trans (hb.mono HB.out.size))
      clear hb
      rw [h]
      go_wp2_with fail
      refine (rclip32 (z + o) _).mono ?_
      rintro e' w2 ⟨rfl, rfl⟩
      go_wp2
      go_ret
      exact ⟨rfl, HB1.out⟩
    · have hq := (quot_pos hs he.1).symm.trans hz
      clear hz
      go_enter Try.func16, Try.ntmps16
      go_wp2_with fail
      refine (rmay_any k q l c d n e o _).mono ?_
      rintro e' w1 ⟨rfl, hb⟩
      have c5 : w1.cell? ⟨w.heap.size, 5, none⟩ = some (.int .i64 n) := box_cell hb 5 _ rfl
      have c6 : w1.cell? ⟨w.heap.size, 6, none⟩ = some (.int .i64 e) := box_cell hb 6 _ rfl
      have c7 : w1.cell? ⟨w.heap.size, 7, none⟩ = some (.int .i64 o) := box_cell hb 7 _ rfl
      have HB1 := Lib.hid (HB.out.trans (hb.mono HB.out.size))
      clear hb
      rw [h]
      go_wp2_with fail
      refine (rclip32 (z + o) _).mono ?_
      rintro e' w2 ⟨rfl, rfl⟩
      go_wp2
      go_ret
      exact ⟨rfl, HB1.out⟩
  · have hxx : r = x := by rw [← hx, lim, if_neg hk, if_neg hk']
    subst hxx
    clear hx
    by_cases hs : y < 0
    · have hq := (quot_neg' hs he.1).symm.trans hz
      clear hz
      go_enter Try.func16, Try.ntmps16
      go_wp2_with fail
      refine (rmay_any k q l c d n e o _).mono ?_
      rintro e' w1 ⟨rfl, hb⟩
      have c5 : w1.cell? ⟨w.heap.size, 5, none⟩ = some (.int .i64 n) := box_cell hb 5 _ rfl
      have c6 : w1.cell? ⟨w.heap.size, 6, none⟩ = some (.int .i64 e) := box_cell hb 6 _ rfl
      have c7 : w1.cell? ⟨w.heap.size, 7, none⟩ = some (.int .i64 o) := box_cell hb 7 _ rfl
      have HB1 := Lib.hid (HB.out.trans (hb.mono HB.out.size))
      clear hb
      rw [h]
      go_wp2_with fail
      refine (rclip32 (z + o) _).mono ?_
      rintro e' w2 ⟨rfl, rfl⟩
      go_wp2
      go_ret
      exact ⟨rfl, HB1.out⟩
    · have hq := (quot_pos hs he.1).symm.trans hz
      clear hz
      go_enter Try.func16, Try.ntmps16
      go_wp2_with fail
      refine (rmay_any k q l c d n e o _).mono ?_
      rintro e' w1 ⟨rfl, hb⟩
      have c5 : w1.cell? ⟨w.heap.size, 5, none⟩ = some (.int .i64 n) := box_cell hb 5 _ rfl
      have c6 : w1.cell? ⟨w.heap.size, 6, none⟩ = some (.int .i64 e) := box_cell hb 6 _ rfl
      have c7 : w1.cell? ⟨w.heap.size, 7, none⟩ = some (.int .i64 o) := box_cell hb 7 _ rfl
      have HB1 := Lib.hid (HB.out.trans (hb.mono HB.out.size))
      clear hb
      rw [h]
      go_wp2_with fail
      refine (rclip32 (z + o) _).mono ?_
      rintro e' w2 ⟨rfl, rfl⟩
      go_wp2
      go_ret
      exact ⟨rfl, HB1.out⟩
end Go.Proofs.Ytpnmnghhcekfnaa
