/- yardref.Dec of every int is what strconv.Itoa writes; memory that was there stands. -/
import Derived.Test.YtpocjmlkhophoaaGreatDoorDec
namespace Go.Proofs.YtpocjmlkhophoaaGreatDoor
open Go.RowKit Go.Extern.Stop Go.Stop Go.Extern

theorem bytes_append (a b : List UInt8) : (⟨a.toArray⟩ : ByteArray) ++ ⟨b.toArray⟩ = ⟨(a ++ b).toArray⟩ := by
  apply ByteArray.ext
  rw [ByteArray.data_append]
  simp
theorem letter_eq (x : Nat) : letter (48 + (x : Int)) = ⟨[UInt8.ofNat (48 + x)].toArray⟩ := by
  have e : (48 + (x : Int)).toNat = 48 + x := by omega
  unfold letter
  rw [e]

/-- Dec of a number that is not negative: its digits. -/
theorem dec_nat : ∀ (u : Nat), u ≤ 9223372036854775807 → ∀ w : World, Calls Tryz.prog 35 #[.int .i64 (u : Int)] w fun e w' => e = .returned (.string ⟨(Lib.decDigits u).toArray⟩) ∧ Below w.heap.size w w' := by
  intro u
  induction u using Nat.strongRecOn with
  | _ u ih =>
    intro hu w
    by_cases h : u < 10
    · refine (dec_small u (by omega) (by omega) w).mono ?_
      rintro e w' ⟨rfl, hb⟩
      refine ⟨?_, hb⟩
      rw [Lib.decDigits, dif_pos h, letter_eq]
    · have hi : (Lib.decDigits (u / 10)).length ≤ 21 := by
        have := Lib.itoa_length_le ((u / 10 : Nat) : Int) (by omega) (by omega)
        unfold Lib.itoa at this
        rw [if_neg (by omega)] at this
        rwa [Int.toNat_natCast] at this
      refine (dec_big u ⟨(Lib.decDigits (u / 10)).toArray⟩ (by rw [bsize]; omega) (by omega) (by omega) w (Lib.hid fun w => ih (u / 10) (by omega) (by omega) w)).mono ?_
      rintro e w' ⟨rfl, hb⟩
      refine ⟨?_, hb⟩
      rw [show ((u : Int) % 10) = ((u % 10 : Nat) : Int) from rfl, letter_eq, bytes_append]
      conv => rhs; rw [Lib.decDigits, dif_neg h]

/-- Dec of every int. -/
theorem dec_any (n : Int) (hn : IsInt n) (w : World) : Calls Tryz.prog 35 #[.int .i64 n] w fun e w' => e = .returned (.string ⟨(Lib.itoa n).toArray⟩) ∧ Below w.heap.size w w' := by
  obtain ⟨h0, h1⟩ := hn
  by_cases hneg : n < 0
  · obtain ⟨m, rfl⟩ : ∃ m : Nat, n = -(m : Int) := ⟨n.natAbs, by omega⟩
    have hit : Lib.itoa (-(m : Int)) = 45 :: Lib.decDigits m := by
      unfold Lib.itoa
      rw [if_pos hneg]
      simp
    rw [hit]
    by_cases h : m < 10
    · refine (dec_neg1 (-(m : Int)) hneg (by omega) w).mono ?_
      rintro e w' ⟨rfl, hb⟩
      refine ⟨?_, hb⟩
      rw [show (48 - -(m : Int)) = 48 + (m : Int) by omega, letter_eq, Lib.decDigits, dif_pos h]
      exact congrArg (fun b => Ending.returned (.string b)) (bytes_append [45] _)
    · have hi : (Lib.decDigits (m / 10)).length ≤ 21 := by
        have := Lib.itoa_length_le ((m / 10 : Nat) : Int) (by omega) (by omega)
        unfold Lib.itoa at this
        rw [if_neg (by omega)] at this
        rwa [Int.toNat_natCast] at this
      have hdv : (-(m : Int)).tdiv 10 = -((m / 10 : Nat) : Int) := by
        rw [Int.neg_tdiv, Int.tdiv_eq_ediv_of_nonneg (by omega)]
        rfl
      have hmd : (-(m : Int)).tmod 10 = -((m % 10 : Nat) : Int) := by
        rw [Int.neg_tmod, Int.tmod_eq_emod_of_nonneg (by omega)]
        rfl
      refine (dec_neg2 (-(m : Int)) _ ((m / 10 : Nat) : Int) _ (48 + ((m % 10 : Nat) : Int)) ⟨(Lib.decDigits (m / 10)).toArray⟩ (by rw [bsize]; omega) (by omega) hdv (IntWalk.i64_in _ (by omega)) (by rw [Int.neg_neg]; exact IntWalk.i64_in _ (by omega))
        (by simp only [beq_eq_false_iff_ne, ne_eq]; omega) hmd (by rw [IntWalk.i64_in _ (by omega)]; omega) (IntWalk.u8_in _ (by omega)) (by omega) (by omega) w (Lib.hid fun w => dec_nat (m / 10) (by omega) w)).mono ?_
      rintro e w' ⟨rfl, hb⟩
      refine ⟨?_, hb⟩
      rw [letter_eq]
      have e2 : Lib.decDigits m = Lib.decDigits (m / 10) ++ [UInt8.ofNat (48 + m % 10)] := by
        conv => lhs; rw [Lib.decDigits, dif_neg h]
      rw [e2]
      refine congrArg (fun b => Ending.returned (.string b)) ?_
      have e3 : (⟨#[45]⟩ : ByteArray) ++ ⟨(Lib.decDigits (m / 10)).toArray⟩ = ⟨([45] ++ Lib.decDigits (m / 10)).toArray⟩ := bytes_append [45] _
      rw [e3, bytes_append]
      simp
  · obtain ⟨u, rfl⟩ := Int.eq_ofNat_of_zero_le (by omega : 0 ≤ n)
    have hit : Lib.itoa (u : Int) = Lib.decDigits u := by
      unfold Lib.itoa
      rw [if_neg (by omega)]
      simp
    rw [hit]
    exact dec_nat u (by omega) w
end Go.Proofs.YtpocjmlkhophoaaGreatDoor
