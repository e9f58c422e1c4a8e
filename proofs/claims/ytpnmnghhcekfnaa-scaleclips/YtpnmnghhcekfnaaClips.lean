/- yardlaw5.ScaleClips answers true for every four numbers; memory that was there stands. -/
import Derived.Test.YtpnmnghhcekfnaaFirst
namespace Go.Proofs.Ytpnmnghhcekfnaa
open Go.RowKit

set_option maxHeartbeats 1000000 in
theorem clips_letters (n b o d c : Int) (f g : Bool) (w : World) (kn : -9223372036854775808 ≤ n ∧ n ≤ 9223372036854775807) (ko : -9223372036854775808 ≤ o ∧ o ≤ 9223372036854775807) (kd : -9223372036854775808 ≤ d ∧ d ≤ 9223372036854775807)
    (hc : ∀ w, Calls Try.prog 19 #[.int .i64 n, .int .i64 b] w fun e w' => e = .returned (.tuple #[.int .i64 c, .bool f]) ∧ w = w')
    (hr : ∀ w, Calls Try.prog 20 #[.int .i64 n, .int .i64 b] w fun e w' => e = .returned (.tuple #[.int .i64 c, .bool f]) ∧ w = w') (hg : beyondN n o d = g) : Calls Try.prog 4 #[.int .i64 n, .int .i64 b, .int .i64 o, .int .i64 d] w fun e w' => e = .returned (.bool true) ∧ Below w.heap.size w w' := by
  have HG := Lib.hid hg
  clear hg
  go_enter Try.func4, Try.ntmps4
  go_wp2_with fail
  refine (first_any w).mono ?_
  rintro e w1 ⟨rfl, h⟩
  have HB1 := Lib.hid h
  clear h
  go_wp2_with fail
  refine (hc _).mono ?_
  rintro e w2 ⟨rfl, rfl⟩
  go_wp2_with fail
  refine (hr _).mono ?_
  rintro e w2 ⟨rfl, rfl⟩
  go_wp2_with fail
  refine (first_any _).mono ?_
  rintro e w2 ⟨rfl, h⟩
  have HB2 := Lib.hid (HB1.out.trans (h.mono HB1.out.size))
  clear h
  go_wp2_with fail
  refine (beyond_any n o d _ kn ko kd).mono ?_
  rintro e w3 ⟨rfl, rfl⟩
  rw [HG.out]
  go_wp2_with fail
  refine (rbeyond_any n o d _ kn ko kd).mono ?_
  rintro e w3 ⟨rfl, rfl⟩
  rw [HG.out]
  go_wp2
  go_ret
  exact ⟨rfl, HB2.out⟩

/-- how many bits that are some. -/
theorem bits_of {b : Int} (h : within b 1 62 = true) : ∃ k : Nat, k < 62 ∧ b = (k : Int) + 1 ∧ (0 : Int) < 2 ^ k ∧ (2 : Int) ^ k ≤ 2305843009213693952 := by
  simp [within] at h
  refine ⟨(b - 1).toNat, by omega, by omega, Int.pow_pos (by decide), ?_⟩
  have h1 : (2 : Nat) ^ (b - 1).toNat ≤ 2 ^ 61 := Nat.pow_le_pow_right (by decide) (by omega)
  have h2 : ((2 ^ (b - 1).toNat : Nat) : Int) ≤ ((2 ^ 61 : Nat) : Int) := Int.ofNat_le.2 h1
  simpa using h2
theorem clips_any (n b o d : Int) (w : World) (kn : -9223372036854775808 ≤ n ∧ n ≤ 9223372036854775807) (ko : -9223372036854775808 ≤ o ∧ o ≤ 9223372036854775807) (kd : -9223372036854775808 ≤ d ∧ d ≤ 9223372036854775807) : Calls Try.prog 4 #[.int .i64 n, .int .i64 b, .int .i64 o, .int .i64 d] w fun e w' => e = .returned (.bool true) ∧ Below w.heap.size w w' := by
  rcases Bool.eq_false_or_eq_true (within b 1 62) with h | h
  · obtain ⟨k, hk, rfl, h0, h1⟩ := bits_of h
    exact clips_letters n _ o d _ _ _ w kn ko kd (fun w => clip_any n k _ hk rfl h0 h1 w) (fun w => rclip_any n k _ hk rfl h0 h1 w) rfl
  · exact clips_letters n b o d _ _ _ w kn ko kd (fun w => clip_none n b w h) (fun w => rclip_none n b w h) rfl
end Go.Proofs.Ytpnmnghhcekfnaa
