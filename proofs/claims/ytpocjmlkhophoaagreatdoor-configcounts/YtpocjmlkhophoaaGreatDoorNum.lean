/- Numbers of one to six bytes: what wire.fromLittle and wire.fromBig answer, and wire.fits and wire.span; memory stands. -/
import Derived.Test.YtpocjmlkhophoaaGreatDoorByt
import Derived.Laws.BitsAllLaws
import Derived.IntWalk
namespace Go.Proofs.YtpocjmlkhophoaaGreatDoor
open Go.RowKit Go.Extern.Stop Go.Stop Go.Extern

/-- The number of bytes, the lowest first. -/
def leNum : List UInt8 → Nat
  | [] => 0
  | x :: l => x.toNat + 256 * leNum l
theorem byte_lt (x : UInt8) : x.toNat < 256 := x.toBitVec.isLt
theorem leNum_lt : ∀ l : List UInt8, leNum l < 256 ^ l.length
  | [] => by simp [leNum]
  | x :: l => by
    have h1 := leNum_lt l
    have h2 := byte_lt x
    simp only [leNum, List.length_cons, Nat.pow_succ]
    omega
theorem leNum_append : ∀ l m : List UInt8, leNum (l ++ m) = leNum l + 256 ^ l.length * leNum m
  | [], m => by simp [leNum]
  | x :: l, m => by
    simp only [List.cons_append, leNum, leNum_append l m, List.length_cons, Nat.pow_succ, Nat.mul_add]
    rw [← Nat.mul_assoc, Nat.mul_comm (256 ^ l.length) 256]
    omega

theorem wrap_byte (x : UInt8) : wrap64 (x.toNat : Int) = (x.toNat : Int) := IntWalk.wrap64_in _ (by have := byte_lt x; omega)
theorem or_nat (a b : Nat) (ha : a < 9223372036854775808) (hb : b < 9223372036854775808) : bits .or .i64 (a : Int) (b : Int) = ((a ||| b : Nat) : Int) := by
  have h2 : a ||| b < 2 ^ 63 := Nat.or_lt_two_pow (by omega) (by omega)
  have e1 : (BitVec.ofInt 64 (a : Int)).toNat = a := by rw [BitVec.toNat_ofInt]; omega
  have e2 : (BitVec.ofInt 64 (b : Int)).toNat = b := by rw [BitVec.toNat_ofInt]; omega
  have e : ((BitVec.ofInt 64 (a : Int)) ||| (BitVec.ofInt 64 (b : Int))).toNat = a ||| b := by rw [BitVec.toNat_or, e1, e2]
  show IntKind.i64.wrap (((BitVec.ofInt 64 (a : Int)) ||| (BitVec.ofInt 64 (b : Int))).toNat : Int) = _
  rw [e]
  exact IntWalk.i64_in _ (by omega)
theorem or_step (a : Nat) (x : UInt8) (h : a < 1099511627776) : bits .or .i64 (wrap64 ((a : Int) * 256)) (wrap64 (x.toNat : Int)) = ((x.toNat + 256 * a : Nat) : Int) := by
  have hx := byte_lt x
  rw [wrap_byte, IntWalk.wrap64_in _ (by omega), show (a : Int) * 256 = ((a * 256 : Nat) : Int) by omega, or_nat _ _ (by omega) (by omega), nat_join 8 (a * 256) x.toNat (by omega) (by omega)]
  congr 1
  omega
theorem or_zero (x : UInt8) : bits .or .i64 0 (wrap64 (x.toNat : Int)) = ((x.toNat : Nat) : Int) := by
  have hx := byte_lt x
  have h := or_nat 0 x.toNat (by omega) (by omega)
  rw [wrap_byte]
  simpa using h

set_option maxRecDepth 100000 in
set_option maxHeartbeats 1000000 in
theorem from_little1 (b0 : UInt8) (v : Value) (w : World) (h : BytesAt w v [b0]) : Calls Tryz.prog 172 #[v] w fun e w' => e = .returned (.int .i64 (leNum [b0])) ∧ w = w' := by
  obtain ⟨ao, cap, rfl, hc⟩ := h
  obtain ⟨b, off, rfl, h0⟩ := hc 0 (by simp)

  simp at h0
  clear hc
  go_enter Tryz.func172, Tryz.ntmps172
  go_wp2
  go_ret
  refine ⟨?_, rfl⟩
  have l0 := byte_lt b0
  show Ending.returned (.int .i64 _) = _
  rw [or_zero b0]
  rfl

set_option maxRecDepth 100000 in
set_option maxHeartbeats 1000000 in
theorem from_little2 (b0 b1 : UInt8) (v : Value) (w : World) (h : BytesAt w v [b0, b1]) : Calls Tryz.prog 172 #[v] w fun e w' => e = .returned (.int .i64 (leNum [b0, b1])) ∧ w = w' := by
  obtain ⟨ao, cap, rfl, hc⟩ := h
  obtain ⟨b, off, rfl, h0⟩ := hc 0 (by simp)
  obtain ⟨b', off', e, h1⟩ := hc 1 (by simp)
  cases e
  simp at h0 h1
  clear hc
  go_enter Tryz.func172, Tryz.ntmps172
  go_wp2
  go_ret
  refine ⟨?_, rfl⟩
  have l0 := byte_lt b0
  have l1 := byte_lt b1
  show Ending.returned (.int .i64 _) = _
  rw [or_zero b1, or_step (b1.toNat) b0 (by omega)]
  rfl

set_option maxRecDepth 100000 in
set_option maxHeartbeats 1000000 in
theorem from_little3 (b0 b1 b2 : UInt8) (v : Value) (w : World) (h : BytesAt w v [b0, b1, b2]) : Calls Tryz.prog 172 #[v] w fun e w' => e = .returned (.int .i64 (leNum [b0, b1, b2])) ∧ w = w' := by
  obtain ⟨ao, cap, rfl, hc⟩ := h
  obtain ⟨b, off, rfl, h0⟩ := hc 0 (by simp)
  obtain ⟨b', off', e, h1⟩ := hc 1 (by simp)
  cases e
  obtain ⟨b', off', e, h2⟩ := hc 2 (by simp)
  cases e
  simp at h0 h1 h2
  clear hc
  go_enter Tryz.func172, Tryz.ntmps172
  go_wp2
  go_ret
  refine ⟨?_, rfl⟩
  have l0 := byte_lt b0
  have l1 := byte_lt b1
  have l2 := byte_lt b2
  show Ending.returned (.int .i64 _) = _
  rw [or_zero b2, or_step (b2.toNat) b1 (by omega), or_step (b1.toNat + 256 * (b2.toNat)) b0 (by omega)]
  rfl

set_option maxRecDepth 100000 in
set_option maxHeartbeats 1000000 in
theorem from_little4 (b0 b1 b2 b3 : UInt8) (v : Value) (w : World) (h : BytesAt w v [b0, b1, b2, b3]) : Calls Tryz.prog 172 #[v] w fun e w' => e = .returned (.int .i64 (leNum [b0, b1, b2, b3])) ∧ w = w' := by
  obtain ⟨ao, cap, rfl, hc⟩ := h
  obtain ⟨b, off, rfl, h0⟩ := hc 0 (by simp)
  obtain ⟨b', off', e, h1⟩ := hc 1 (by simp)
  cases e
  obtain ⟨b', off', e, h2⟩ := hc 2 (by simp)
  cases e
  obtain ⟨b', off', e, h3⟩ := hc 3 (by simp)
  cases e
  simp at h0 h1 h2 h3
  clear hc
  go_enter Tryz.func172, Tryz.ntmps172
  go_wp2
  go_ret
  refine ⟨?_, rfl⟩
  have l0 := byte_lt b0
  have l1 := byte_lt b1
  have l2 := byte_lt b2
  have l3 := byte_lt b3
  show Ending.returned (.int .i64 _) = _
  rw [or_zero b3, or_step (b3.toNat) b2 (by omega), or_step (b2.toNat + 256 * (b3.toNat)) b1 (by omega), or_step (b1.toNat + 256 * (b2.toNat + 256 * (b3.toNat))) b0 (by omega)]
  rfl

set_option maxRecDepth 100000 in
set_option maxHeartbeats 1000000 in
theorem from_little5 (b0 b1 b2 b3 b4 : UInt8) (v : Value) (w : World) (h : BytesAt w v [b0, b1, b2, b3, b4]) : Calls Tryz.prog 172 #[v] w fun e w' => e = .returned (.int .i64 (leNum [b0, b1, b2, b3, b4])) ∧ w = w' := by
  obtain ⟨ao, cap, rfl, hc⟩ := h
  obtain ⟨b, off, rfl, h0⟩ := hc 0 (by simp)
  obtain ⟨b', off', e, h1⟩ := hc 1 (by simp)
  cases e
  obtain ⟨b', off', e, h2⟩ := hc 2 (by simp)
  cases e
  obtain ⟨b', off', e, h3⟩ := hc 3 (by simp)
  cases e
  obtain ⟨b', off', e, h4⟩ := hc 4 (by simp)
  cases e
  simp at h0 h1 h2 h3 h4
  clear hc
  go_enter Tryz.func172, Tryz.ntmps172
  go_wp2
  go_ret
  refine ⟨?_, rfl⟩
  have l0 := byte_lt b0
  have l1 := byte_lt b1
  have l2 := byte_lt b2
  have l3 := byte_lt b3
  have l4 := byte_lt b4
  show Ending.returned (.int .i64 _) = _
  rw [or_zero b4, or_step (b4.toNat) b3 (by omega), or_step (b3.toNat + 256 * (b4.toNat)) b2 (by omega), or_step (b2.toNat + 256 * (b3.toNat + 256 * (b4.toNat))) b1 (by omega), or_step (b1.toNat + 256 * (b2.toNat + 256 * (b3.toNat + 256 * (b4.toNat)))) b0 (by omega)]
  rfl

set_option maxRecDepth 100000 in
set_option maxHeartbeats 1000000 in
theorem from_little6 (b0 b1 b2 b3 b4 b5 : UInt8) (v : Value) (w : World) (h : BytesAt w v [b0, b1, b2, b3, b4, b5]) : Calls Tryz.prog 172 #[v] w fun e w' => e = .returned (.int .i64 (leNum [b0, b1, b2, b3, b4, b5])) ∧ w = w' := by
  obtain ⟨ao, cap, rfl, hc⟩ := h
  obtain ⟨b, off, rfl, h0⟩ := hc 0 (by simp)
  obtain ⟨b', off', e, h1⟩ := hc 1 (by simp)
  cases e
  obtain ⟨b', off', e, h2⟩ := hc 2 (by simp)
  cases e
  obtain ⟨b', off', e, h3⟩ := hc 3 (by simp)
  cases e
  obtain ⟨b', off', e, h4⟩ := hc 4 (by simp)
  cases e
  obtain ⟨b', off', e, h5⟩ := hc 5 (by simp)
  cases e
  simp at h0 h1 h2 h3 h4 h5
  clear hc
  go_enter Tryz.func172, Tryz.ntmps172
  go_wp2
  go_ret
  refine ⟨?_, rfl⟩
  have l0 := byte_lt b0
  have l1 := byte_lt b1
  have l2 := byte_lt b2
  have l3 := byte_lt b3
  have l4 := byte_lt b4
  have l5 := byte_lt b5
  show Ending.returned (.int .i64 _) = _
  rw [wrap_byte b5, or_step (b5.toNat) b4 (by omega), or_step (b4.toNat + 256 * (b5.toNat)) b3 (by omega), or_step (b3.toNat + 256 * (b4.toNat + 256 * (b5.toNat))) b2 (by omega), or_step (b2.toNat + 256 * (b3.toNat + 256 * (b4.toNat + 256 * (b5.toNat)))) b1 (by omega), or_step (b1.toNat + 256 * (b2.toNat + 256 * (b3.toNat + 256 * (b4.toNat + 256 * (b5.toNat))))) b0 (by omega)]
  rfl

theorem from_little (v : Value) (l : List UInt8) (w : World) (h : BytesAt w v l) (h1 : 1 ≤ l.length) (h2 : l.length ≤ 6) : Calls Tryz.prog 172 #[v] w fun e w' => e = .returned (.int .i64 (leNum l)) ∧ w = w' := by
  match l, h, h1, h2 with
  | [b0], h, _, _ => exact from_little1 b0 v w h
  | [b0, b1], h, _, _ => exact from_little2 b0 b1 v w h
  | [b0, b1, b2], h, _, _ => exact from_little3 b0 b1 b2 v w h
  | [b0, b1, b2, b3], h, _, _ => exact from_little4 b0 b1 b2 b3 v w h
  | [b0, b1, b2, b3, b4], h, _, _ => exact from_little5 b0 b1 b2 b3 b4 v w h
  | [b0, b1, b2, b3, b4, b5], h, _, _ => exact from_little6 b0 b1 b2 b3 b4 b5 v w h
  | _ :: _ :: _ :: _ :: _ :: _ :: _ :: _, _, _, h2 => simp at h2
theorem fits_any (n : Int) (w : World) : Calls Tryz.prog 94 #[.int .i64 n] w fun e w' => e = .returned (.bool (decide (1 ≤ n ∧ n ≤ 6))) ∧ w = w' := by
  by_cases h1 : 1 ≤ n
  · by_cases h2 : n ≤ 6
    · have hd : decide (1 ≤ n ∧ n ≤ 6) = true := by simp; omega
      rw [hd]
      clear hd
      go_enter Tryz.func94, Tryz.ntmps94
      go_wp2
      go_ret
      exact ⟨rfl, rfl⟩
    · have hd : decide (1 ≤ n ∧ n ≤ 6) = false := by simp; omega
      rw [hd]
      clear hd
      go_enter Tryz.func94, Tryz.ntmps94
      go_wp2
      go_ret
      exact ⟨rfl, rfl⟩
  · have hd : decide (1 ≤ n ∧ n ≤ 6) = false := by simp; omega
    rw [hd]
    clear hd
    go_enter Tryz.func94, Tryz.ntmps94
    go_wp2
    go_ret
    exact ⟨rfl, rfl⟩
theorem span_any (n : Nat) (h1 : 1 ≤ n) (h2 : n ≤ 6) (w : World) : Calls Tryz.prog 95 #[.int .i64 n] w fun e w' => e = .returned (.int .i64 ((256 ^ n : Nat) : Int)) ∧ w = w' := by
  match n, h1, h2 with
  | 1, _, _ => go_enter Tryz.func95, Tryz.ntmps95; go_wp2; go_ret; exact ⟨rfl, rfl⟩
  | 2, _, _ => go_enter Tryz.func95, Tryz.ntmps95; go_wp2; go_ret; exact ⟨rfl, rfl⟩
  | 3, _, _ => go_enter Tryz.func95, Tryz.ntmps95; go_wp2; go_ret; exact ⟨rfl, rfl⟩
  | 4, _, _ => go_enter Tryz.func95, Tryz.ntmps95; go_wp2; go_ret; exact ⟨rfl, rfl⟩
  | 5, _, _ => go_enter Tryz.func95, Tryz.ntmps95; go_wp2; go_ret; exact ⟨rfl, rfl⟩
  | 6, _, _ => go_enter Tryz.func95, Tryz.ntmps95; go_wp2; go_ret; exact ⟨rfl, rfl⟩
  | n + 7, _, h2 => omega
end Go.Proofs.YtpocjmlkhophoaaGreatDoor
