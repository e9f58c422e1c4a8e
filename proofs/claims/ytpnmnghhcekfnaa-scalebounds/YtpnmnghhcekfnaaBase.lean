/- scale's small functions (isWithin, Clip, quotient, Signed, distance, Beyond) and the document's (Signed, Clip, Beyond): what each returns; memory stands. -/
import Derived.Test.YtpnmnghhcekfnaaProg
import Derived.WalkKit
import Derived.WalkSpells
import Derived.Outline
import Derived.Laws.Bits64
import Derived.Lib.Hide
namespace Go.Proofs.Ytpnmnghhcekfnaa
open Go.RowKit

def within (n a b : Int) : Bool := decide (a ≤ n) && decide (n ≤ b)

set_option maxHeartbeats 400000 in
theorem within_any (n a b : Int) (w : World) : Calls Try.prog 24 #[.int .i64 n, .int .i64 a, .int .i64 b] w fun e w' => e = .returned (.bool (within n a b)) ∧ w = w' := by
  by_cases h1 : a ≤ n
  · by_cases h2 : n ≤ b
    · have e : within n a b = true := by simp [within, h1, h2]
      have E := Lib.hid e
      clear e
      go_enter Try.func24, Try.ntmps24
      go_wp2
      go_ret
      rw [E.out]
      exact ⟨rfl, rfl⟩
    · have e : within n a b = false := by simp [within, h2]
      have E := Lib.hid e
      clear e
      go_enter Try.func24, Try.ntmps24
      go_wp2
      go_ret
      rw [E.out]
      exact ⟨rfl, rfl⟩
  · have e : within n a b = false := by simp [within, h1]
    have E := Lib.hid e
    clear e
    go_enter Try.func24, Try.ntmps24
    go_wp2
    go_ret
    rw [E.out]
    exact ⟨rfl, rfl⟩

/-- the number nearest to n among those from -S to S - 1, and whether n is none of them. -/
def clipV (n S : Int) : Int := if n < -S then -S else if S ≤ n then S - 1 else n
def clipF (n S : Int) : Bool := decide (n < -S) || decide (S ≤ n)

/-- bits that are none. -/
theorem clip_none (n b : Int) (w : World) (h : within b 1 62 = false) : Calls Try.prog 19 #[.int .i64 n, .int .i64 b] w fun e w' => e = .returned (.tuple #[.int .i64 0, .bool true]) ∧ w = w' := by
  go_enter Try.func19, Try.ntmps19
  go_wp2_with fail
  refine (within_any _ _ _ _).mono ?_
  rintro e w' ⟨rfl, rfl⟩
  rw [h]
  go_wp2
  go_ret2
  exact ⟨rfl, rfl⟩

set_option maxHeartbeats 400000 in
theorem clip_any (n : Int) (k : Nat) (S : Int) (hk : k < 62) (hS : (2 : Int) ^ k = S) (h0 : 0 < S) (h1 : S ≤ 2305843009213693952) (w : World) : Calls Try.prog 19 #[.int .i64 n, .int .i64 ((k : Int) + 1)] w fun e w' => e = .returned (.tuple #[.int .i64 (clipV n S), .bool (clipF n S)]) ∧ w = w' := by
  have hw : within ((k : Int) + 1) 1 62 = true := by simp [within]; omega
  rcases (by omega : n < -S ∨ (¬ n < -S ∧ S ≤ n) ∨ (¬ n < -S ∧ ¬ S ≤ n)) with h | ⟨h, h'⟩ | ⟨h, h'⟩
  · have E := Lib.hid (show clipV n S = -S ∧ clipF n S = true by constructor <;> simp [clipV, clipF] <;> omega)
    go_enter Try.func19, Try.ntmps19
    go_wp2_with fail
    refine (within_any _ _ _ _).mono ?_
    rintro e w' ⟨rfl, rfl⟩
    rw [hw]
    go_wp2
    go_ret2
    rw [E.out.1, E.out.2]
    exact ⟨rfl, rfl⟩
  · have E := Lib.hid (show clipV n S = S - 1 ∧ clipF n S = true by constructor <;> simp [clipV, clipF] <;> omega)
    go_enter Try.func19, Try.ntmps19
    go_wp2_with fail
    refine (within_any _ _ _ _).mono ?_
    rintro e w' ⟨rfl, rfl⟩
    rw [hw]
    go_wp2
    go_ret2
    rw [E.out.1, E.out.2]
    exact ⟨rfl, rfl⟩
  · have E := Lib.hid (show clipV n S = n ∧ clipF n S = false by constructor <;> simp [clipV, clipF] <;> omega)
    go_enter Try.func19, Try.ntmps19
    go_wp2_with fail
    refine (within_any _ _ _ _).mono ?_
    rintro e w' ⟨rfl, rfl⟩
    rw [hw]
    go_wp2
    go_ret2
    rw [E.out.1, E.out.2]
    exact ⟨rfl, rfl⟩

/-- thirty-two bits. -/
abbrev M : Int := 2147483648
theorem clip32 (n : Int) (w : World) : Calls Try.prog 19 #[.int .i64 n, .int .i64 32] w fun e w' => e = .returned (.tuple #[.int .i64 (clipV n M), .bool (clipF n M)]) ∧ w = w' :=
  clip_any n 31 M (by omega) (by decide) (by decide) (by decide) w

/-- n through d, to the nearest, halves away from 0. -/
def quotN (n d : Int) : Int := if 0 < n then (2 * n + d) / (2 * d) else if n < 0 then -((2 * -n + d) / (2 * d)) else 0

theorem quot_neg {n d : Int} (h : n < 0) (hd : 1 ≤ d) : quotN n d = (2 * n - d).tdiv (2 * d) := by
  rw [quotN, if_neg (by omega), if_pos h, show 2 * n - d = -(2 * -n + d) by omega, Int.neg_tdiv, Int.tdiv_eq_ediv_of_nonneg (by omega)]

set_option maxHeartbeats 400000 in
theorem quot_any (n d : Int) (w : World) (hn : -8796093022208 ≤ n) (hn' : n ≤ 8796093022208) (hd : 1 ≤ d) (hd' : d ≤ 1000) : Calls Try.prog 25 #[.int .i64 n, .int .i64 d] w fun e w' => e = .returned (.int .i64 (quotN n d)) ∧ w = w' := by
  rcases (by omega : 0 < n ∨ (¬ 0 < n ∧ n < 0) ∨ (¬ 0 < n ∧ ¬ n < 0)) with h | ⟨h, h'⟩ | ⟨h, h'⟩
  · have E := Lib.hid (show quotN n d = (2 * n + d) / (2 * d) from if_pos h)
    go_enter Try.func25, Try.ntmps25
    go_wp2
    go_ret
    rw [E.out]
    exact ⟨rfl, rfl⟩
  · have E := Lib.hid (quot_neg h' hd)
    go_enter Try.func25, Try.ntmps25
    go_wp2
    go_ret
    rw [E.out]
    exact ⟨rfl, rfl⟩
  · have E := Lib.hid (show quotN n d = 0 by simp [quotN, h, h'])
    go_enter Try.func25, Try.ntmps25
    go_wp2
    go_ret
    rw [E.out]
    exact ⟨rfl, rfl⟩

/-- the low sixteen bits, with a sign. -/
def sgn (n : Int) : Int := (n + 32768) % 65536 - 32768
theorem wrap_i16 (n : Int) : IntKind.i16.wrap n = (n + 32768) % 65536 - 32768 := by
  simp [IntKind.wrap, IntKind.bits, IntKind.signed]
  split <;> omega
theorem signed_any (n : Int) (w : World) : Calls Try.prog 17 #[.int .i64 n] w fun e w' => e = .returned (.int .i64 (sgn n)) ∧ w = w' := by
  have E := Lib.hid (show wrap64 (IntKind.i16.wrap n) = sgn n by rw [wrap_i16]; unfold sgn wrap64; omega)
  go_enter Try.func17, Try.ntmps17
  go_wp2
  go_ret
  exact ⟨congrArg (fun x => Ending.returned (.int .i64 x)) E.out, rfl⟩

set_option maxHeartbeats 400000 in
theorem rclip_any (n : Int) (k : Nat) (S : Int) (hk : k < 62) (hS : (2 : Int) ^ k = S) (h0 : 0 < S) (h1 : S ≤ 2305843009213693952) (w : World) : Calls Try.prog 20 #[.int .i64 n, .int .i64 ((k : Int) + 1)] w fun e w' => e = .returned (.tuple #[.int .i64 (clipV n S), .bool (clipF n S)]) ∧ w = w' := by
  rcases (by omega : n < -S ∨ (¬ n < -S ∧ S ≤ n) ∨ (¬ n < -S ∧ ¬ S ≤ n)) with h | ⟨h, h'⟩ | ⟨h, h'⟩
  · have E := Lib.hid (show clipV n S = -S ∧ clipF n S = true by constructor <;> simp [clipV, clipF] <;> omega)
    go_enter Try.func20, Try.ntmps20
    go_wp2
    go_ret2
    rw [E.out.1, E.out.2]
    exact ⟨rfl, rfl⟩
  · have E := Lib.hid (show clipV n S = S - 1 ∧ clipF n S = true by constructor <;> simp [clipV, clipF] <;> omega)
    go_enter Try.func20, Try.ntmps20
    go_wp2
    go_ret2
    rw [E.out.1, E.out.2]
    exact ⟨rfl, rfl⟩
  · have E := Lib.hid (show clipV n S = n ∧ clipF n S = false by constructor <;> simp [clipV, clipF] <;> omega)
    go_enter Try.func20, Try.ntmps20
    go_wp2
    go_ret2
    rw [E.out.1, E.out.2]
    exact ⟨rfl, rfl⟩

theorem rclip_none (n b : Int) (w : World) (h : within b 1 62 = false) : Calls Try.prog 20 #[.int .i64 n, .int .i64 b] w fun e w' => e = .returned (.tuple #[.int .i64 0, .bool true]) ∧ w = w' := by
  have hh : b < 1 ∨ (¬ b < 1 ∧ 62 < b) := by simp [within] at h; omega
  clear h
  rcases hh with h | ⟨h, h'⟩
  · go_enter Try.func20, Try.ntmps20
    go_wp2
    go_ret2
    exact ⟨rfl, rfl⟩
  · go_enter Try.func20, Try.ntmps20
    go_wp2
    go_ret2
    exact ⟨rfl, rfl⟩
theorem rclip32 (n : Int) (w : World) : Calls Try.prog 20 #[.int .i64 n, .int .i64 32] w fun e w' => e = .returned (.tuple #[.int .i64 (clipV n M), .bool (clipF n M)]) ∧ w = w' :=
  rclip_any n 31 M (by omega) (by decide) (by decide) (by decide) w

/-- how far two numbers lie apart. -/
def far (a b : Int) : Int := if a < b then b - a else a - b
set_option maxHeartbeats 400000 in
theorem distance_any (a b : Int) (w : World) (ka : -9223372036854775808 ≤ a ∧ a ≤ 9223372036854775807) (kb : -9223372036854775808 ≤ b ∧ b ≤ 9223372036854775807) : Calls Try.prog 26 #[.int .i64 a, .int .i64 b] w fun e w' => e = .returned (.int .u64 (far a b)) ∧ w = w' := by
  rcases (by omega : a < b ∨ (¬ a < b ∧ b < a) ∨ (¬ a < b ∧ ¬ b < a)) with h | ⟨h, h'⟩ | ⟨h, h'⟩
  · have E := Lib.hid (show IntKind.u64.wrap (IntKind.u64.wrap b - IntKind.u64.wrap a) = far a b by rw [far, if_pos h, IntKind.wrap_u64, IntKind.wrap_u64, IntKind.wrap_u64]; omega)
    go_enter Try.func26, Try.ntmps26
    go_wp2
    go_ret
    exact ⟨congrArg (fun x => Ending.returned (.int .u64 x)) E.out, rfl⟩
  · have E := Lib.hid (show IntKind.u64.wrap (IntKind.u64.wrap a - IntKind.u64.wrap b) = far a b by rw [far, if_neg h, IntKind.wrap_u64, IntKind.wrap_u64, IntKind.wrap_u64]; omega)
    go_enter Try.func26, Try.ntmps26
    go_wp2
    go_ret
    exact ⟨congrArg (fun x => Ending.returned (.int .u64 x)) E.out, rfl⟩
  · have E := Lib.hid (show (0 : Int) = far a b by rw [far, if_neg h]; omega)
    go_enter Try.func26, Try.ntmps26
    go_wp2
    go_ret
    exact ⟨congrArg (fun x => Ending.returned (.int .u64 x)) E.out, rfl⟩

/-- farther than the deadband; one below 0 counts as 0. -/
def beyondN (a b d : Int) : Bool := decide (max d 0 < far a b)
set_option maxHeartbeats 400000 in
theorem beyond_any (a b d : Int) (w : World) (ka : -9223372036854775808 ≤ a ∧ a ≤ 9223372036854775807) (kb : -9223372036854775808 ≤ b ∧ b ≤ 9223372036854775807) (kd : -9223372036854775808 ≤ d ∧ d ≤ 9223372036854775807) : Calls Try.prog 21 #[.int .i64 a, .int .i64 b, .int .i64 d] w fun e w' => e = .returned (.bool (beyondN a b d)) ∧ w = w' := by
  by_cases h : d < 0
  · have E := Lib.hid (show decide (0 < far a b) = beyondN a b d by rw [beyondN, show max d 0 = 0 by omega])
    go_enter Try.func21, Try.ntmps21
    go_wp2_with fail
    refine (distance_any a b _ ka kb).mono ?_
    rintro e w' ⟨rfl, rfl⟩
    go_wp2
    go_ret
    exact ⟨congrArg (fun x => Ending.returned (.bool x)) E.out, rfl⟩
  · have E := Lib.hid (show decide (d < far a b) = beyondN a b d by rw [beyondN, show max d 0 = d by omega])
    have e : IntKind.u64.wrap d = d := by rw [IntKind.wrap_u64]; omega
    go_enter Try.func21, Try.ntmps21
    go_wp2_with fail
    refine (distance_any a b _ ka kb).mono ?_
    rintro e w' ⟨rfl, rfl⟩
    go_wp2
    go_ret
    exact ⟨congrArg (fun x => Ending.returned (.bool x)) E.out, rfl⟩
set_option maxHeartbeats 800000 in
theorem rbeyond_any (a b d : Int) (w : World) (ka : -9223372036854775808 ≤ a ∧ a ≤ 9223372036854775807) (kb : -9223372036854775808 ≤ b ∧ b ≤ 9223372036854775807) (kd : -9223372036854775808 ≤ d ∧ d ≤ 9223372036854775807) : Calls Try.prog 22 #[.int .i64 a, .int .i64 b, .int .i64 d] w fun e w' => e = .returned (.bool (beyondN a b d)) ∧ w = w' := by
  have hf : (a < b → IntKind.u64.wrap (IntKind.u64.wrap b - IntKind.u64.wrap a) = far a b) ∧ (¬ a < b → IntKind.u64.wrap (IntKind.u64.wrap a - IntKind.u64.wrap b) = far a b) :=
    ⟨fun h => by rw [far, if_pos h, IntKind.wrap_u64, IntKind.wrap_u64, IntKind.wrap_u64]; omega, fun h => by rw [far, if_neg h, IntKind.wrap_u64, IntKind.wrap_u64, IntKind.wrap_u64]; omega⟩
  by_cases h : d < 0
  · have E := Lib.hid (show decide (0 < far a b) = beyondN a b d by rw [beyondN, show max d 0 = 0 by omega])
    by_cases k : a < b
    · have hz := hf.1 k
      clear hf
      go_enter Try.func22, Try.ntmps22
      go_wp2
      go_ret
      exact ⟨congrArg (fun x => Ending.returned (.bool x)) E.out, rfl⟩
    · have hz := hf.2 k
      clear hf
      go_enter Try.func22, Try.ntmps22
      go_wp2
      go_ret
      exact ⟨congrArg (fun x => Ending.returned (.bool x)) E.out, rfl⟩
  · have E := Lib.hid (show decide (d < far a b) = beyondN a b d by rw [beyondN, show max d 0 = d by omega])
    have e : IntKind.u64.wrap d = d := by rw [IntKind.wrap_u64]; omega
    by_cases k : a < b
    · have hz := hf.1 k
      clear hf
      go_enter Try.func22, Try.ntmps22
      go_wp2
      go_ret
      exact ⟨congrArg (fun x => Ending.returned (.bool x)) E.out, rfl⟩
    · have hz := hf.2 k
      clear hf
      go_enter Try.func22, Try.ntmps22
      go_wp2
      go_ret
      exact ⟨congrArg (fun x => Ending.returned (.bool x)) E.out, rfl⟩
theorem and_mod (a : Int) : bits .and .i64 a 65535 = a % 65536 := by
  have h : bits .and .i64 a 65535 = IntKind.i64.wrap ((BitVec.ofInt 64 a &&& BitVec.ofInt 64 65535).toNat : Int) := rfl
  have hm : ∀ x : Nat, x &&& 65535 = x % 65536 := fun x => Nat.and_two_pow_sub_one_eq_mod x 16
  have hx : (BitVec.ofInt 64 a &&& BitVec.ofInt 64 65535).toNat = (a % 65536).toNat := by
    rw [BitVec.toNat_and, show (BitVec.ofInt 64 65535).toNat = 65535 from rfl, hm, BitVec.toNat_ofInt]
    omega
  rw [h, hx]
  simp [IntKind.wrap, IntKind.bits, IntKind.signed]
  omega
theorem rsigned_any (n : Int) (w : World) : Calls Try.prog 18 #[.int .i64 n] w fun e w' => e = .returned (.int .i64 (sgn n)) ∧ w = w' := by
  have hm := and_mod n
  by_cases k : 32768 ≤ n % 65536
  · have E := Lib.hid (show n % 65536 - 65536 = sgn n by unfold sgn; omega)
    go_enter Try.func18, Try.ntmps18
    go_wp2
    go_ret
    exact ⟨congrArg (fun x => Ending.returned (.int .i64 x)) E.out, rfl⟩
  · have E := Lib.hid (show n % 65536 = sgn n by unfold sgn; omega)
    go_enter Try.func18, Try.ntmps18
    go_wp2
    go_ret
    exact ⟨congrArg (fun x => Ending.returned (.int .i64 x)) E.out, rfl⟩
end Go.Proofs.Ytpnmnghhcekfnaa
