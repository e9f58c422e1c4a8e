/- Arithmetic alone: what a scale gives where nothing is limited or clipped; rounding is odd, near, and the whole number where one is. -/
import Derived.Test.YtpnmnghhcekfnaaFirst
namespace Go.Proofs.Ytpnmnghhcekfnaa
open Go.RowKit

theorem quot_odd (y e : Int) : quotN (-y) e = -quotN y e := by
  unfold quotN
  rcases (by omega : y < 0 ∨ y = 0 ∨ 0 < y) with h | h | h
  · rw [if_pos (by omega), if_neg (by omega), if_pos h, Int.neg_neg]
  · subst h
    rfl
  · rw [if_neg (by omega), if_pos (by omega), if_pos h, Int.neg_neg]
/-- near, above 0. -/
theorem quot_near_pos {y e : Int} (h : 0 < y) (he : 1 ≤ e) : 2 * (quotN y e * e) ≤ 2 * y + e ∧ 2 * y < 2 * (quotN y e * e) + e + 1 ∧ 0 ≤ quotN y e ∧ quotN y e ≤ y := by
  have e1 : quotN y e = (2 * y + e) / (2 * e) := if_pos h
  have h1 := Int.mul_ediv_self_le (x := 2 * y + e) (k := 2 * e) (by omega)
  have h2 := Int.lt_mul_ediv_self_add (x := 2 * y + e) (k := 2 * e) (by omega)
  have h3 : 0 ≤ (2 * y + e) / (2 * e) := Int.ediv_nonneg (by omega) (by omega)
  have h4 : (2 * y + e) / (2 * e) < y + 1 := (Int.ediv_lt_iff_lt_mul (by omega)).2 (by
    have := Int.mul_le_mul_of_nonneg_left he (show 0 ≤ y by omega)
    rw [Int.add_mul, Int.mul_left_comm]
    omega)
  rw [e1]
  generalize (2 * y + e) / (2 * e) = q at *
  rw [Int.mul_assoc, Int.mul_comm e q] at h1 h2
  omega
/-- near: by half of e at most; and no farther from 0 than y. -/
theorem quot_near {y e : Int} (he : 1 ≤ e) : 2 * (quotN y e * e - y) ≤ e ∧ 2 * (y - quotN y e * e) ≤ e ∧ (quotN y e).natAbs ≤ y.natAbs := by
  rcases (by omega : y < 0 ∨ y = 0 ∨ 0 < y) with h | h | h
  · have k := quot_near_pos (y := -y) (by omega) he
    rw [quot_odd, Int.neg_mul] at k
    omega
  · subst h
    rw [show quotN 0 e = 0 from rfl]
    omega
  · have k := quot_near_pos h he
    omega
theorem may_own {n e o : Int} (hn : -1000 ≤ n ∧ n ≤ 1000) (he : 1 ≤ e ∧ e ≤ 1000) (ho : -1000000 ≤ o ∧ o ≤ 1000000) : mayN 0 n e o = true := by
  simp [mayN, within]
  omega
theorem lim_id {r : Int} (h : -2147483648 ≤ r ∧ r ≤ 4294967295) : lim r = r := by unfold lim; omega
theorem clip_id {x : Int} (h : -2147483648 ≤ x ∧ x ≤ 2147483647) : clipV x M = x := by simp only [clipV, M]; omega
/-- nothing is limited, nothing is clipped. -/
theorem val_small {n e o r y : Int} (hn : -1000 ≤ n ∧ n ≤ 1000) (he : 1 ≤ e ∧ e ≤ 1000) (ho : -1000000 ≤ o ∧ o ≤ 1000000) (hr : -2147483648 ≤ r ∧ r ≤ 4294967295) (hy : r * n = y) (hb : -2000000000 ≤ y ∧ y ≤ 2000000000) : valN n e o r = quotN y e + o := by
  have k := (quot_near (y := y) he.1).2.2
  rw [valN, applyN, may_own hn he ho, lim_id hr, hy]
  exact clip_id (by omega)
/-- a product of small ones. -/
theorem small_mul {r n : Int} {R : Nat} (hr : r.natAbs ≤ R) (hn : -1000 ≤ n ∧ n ≤ 1000) : (r * n).natAbs ≤ R * 1000 := by
  rw [Int.natAbs_mul]
  exact Nat.mul_le_mul hr (by omega)
theorem quot_one (y : Int) : quotN y 1 = y := by unfold quotN; omega
theorem quot_mul {x e : Int} (he : 1 ≤ e) : quotN (x * e) e = x := by
  have key : ∀ x : Int, 0 < x → quotN (x * e) e = x := fun x hx => by
    have hp : 0 < x * e := Int.mul_pos hx (by omega)
    rw [quotN, if_pos hp, round_half he, Int.add_comm, Int.add_mul_ediv_right _ _ (by omega), Int.ediv_eq_zero_of_lt (by omega) (by omega)]
    omega
  rcases (by omega : x < 0 ∨ x = 0 ∨ 0 < x) with h | h | h
  · have k := key (-x) (by omega)
    rw [Int.neg_mul, quot_odd] at k
    omega
  · subst h
    rw [Int.zero_mul]
    rfl
  · exact key x h
/-- it rises. -/
theorem quot_mono {y z e : Int} (h : y ≤ z) (he : 1 ≤ e) : quotN y e ≤ quotN z e := by
  have key : ∀ a b : Int, 0 < a → a ≤ b → quotN a e ≤ quotN b e := fun a b ha hab => by
    rw [quotN, if_pos ha, quotN, if_pos (by omega)]
    exact Int.ediv_le_ediv (by omega) (by omega)
  by_cases hy : 0 < y
  · exact key y z hy h
  · by_cases hz : z < 0
    · have k := key (-z) (-y) (by omega) (by omega)
      rw [quot_odd, quot_odd] at k
      omega
    · have k1 : quotN y e ≤ 0 := by
        by_cases h0 : y = 0
        · subst h0; exact Int.le_refl _
        · have k := (quot_near_pos (y := -y) (by omega) he).2.2.1
          rw [quot_odd] at k
          omega
      have k2 : 0 ≤ quotN z e := by
        by_cases h0 : z = 0
        · subst h0; exact Int.le_refl _
        · exact (quot_near_pos (y := z) (by omega) he).2.2.1
      omega
end Go.Proofs.Ytpnmnghhcekfnaa
