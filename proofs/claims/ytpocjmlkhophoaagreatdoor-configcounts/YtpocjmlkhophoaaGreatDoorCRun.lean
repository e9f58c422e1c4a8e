/- crc.run, and the document's Step and sum. -/
import Derived.Test.YtpocjmlkhophoaaGreatDoorCBase
import Derived.Test.YtpocjmlkhophoaaGreatDoorByt
import Derived.Deep.LoopGhost
import Derived.OwnWalk
import Derived.Maps.AppendAt
import Derived.Deep.AppendLies
import Derived.Lib.SliceRun
import Derived.Laws.IdiomStrings
namespace Go.Proofs.YtpocjmlkhophoaaGreatDoor
open Go.RowKit

set_option maxRecDepth 100000 in
set_option maxHeartbeats 1000000 in
theorem run_any (p s : Nat) (v : Value) (l : List UInt8) (w : World) (hp : p < 65536) (hs : s < 65536) (hv : BytesAt w v l) (hm : l.length ≤ maxLen) : Calls Tryz.prog 98 #[.int .u16 (p : Int), .int .u16 (s : Int), v] w fun e w' => e = .returned (.int .u16 ((runN p s l : Nat) : Int)) ∧ w = w' := by
  obtain ⟨ao, cap, rfl, hc⟩ := hv
  unfold maxLen at hm
  have HC := Lib.hid hc
  clear hc
  go_enter Tryz.func98, Tryz.ntmps98
  go_wp2
  go_loopg [1, 11] l.length (fun k s1 s11 wr => w = wr ∧ ∃ i : Nat, i ≤ l.length ∧ k = l.length - i ∧ s1 = .int .u16 ((runN p s (l.take i) : Nat) : Int) ∧ s11 = .int .i64 i)
  case atStart => exact ⟨rfl, 0, Nat.zero_le _, rfl, rfl, rfl⟩
  case round =>
    obtain ⟨rfl, i, hi, rfl, rfl, rfl⟩ := hrel
    have hlt := runN_lt hp (l.take i) s hs
    by_cases h : i < l.length
    · obtain ⟨b, off, rfl, hcell⟩ := HC.out i h
      have HT := Lib.hid (runN_take p s l i h)
      have hb := cbyte_lt l[i]
      generalize l[i].toNat = x at *
      go_wp2_with fail
      refine (step_any p _ x w hp hlt hb).mono ?_
      rintro e w' ⟨rfl, rfl⟩
      go_wp2
      go_roundg (l.length - (i + 1))
      case measure => omega
      case rel => exact ⟨rfl, i + 1, by omega, rfl, by rw [HT.out], by go_num⟩
    · have he : Hid (runN p s (l.take i) = runN p s l) := Lib.hid (by rw [List.take_of_length_le (by omega)])
      go_wp2
      go_ret
      rw [he.out]
      exact ⟨rfl, rfl⟩

def itN (p : Nat) : Nat → Nat → Nat
  | 0, s => s
  | n + 1, s => bit1 p (itN p n s)
theorem itN_lt {p s : Nat} (hp : p < 65536) (hs : s < 65536) : ∀ n, itN p n s < 65536
  | 0 => hs
  | n + 1 => bit1_lt hp (itN_lt hp hs n)

set_option maxHeartbeats 1000000 in
theorem refStep_any (p s : Int) (b : Nat) (w : World) (hb : b < 256) : Calls Tryz.prog 133 #[.int .i64 p, .int .i64 s, .int .u8 (b : Int)] w fun e w' => e = .returned (.int .i64 ((stepN (lo p) (lo s) b : Nat) : Int)) ∧ w = w' := by
  have h1 := and_lo p
  have h2 := and_lo s
  have h3 : bits .xor .i64 ((lo s : Nat) : Int) (b : Int) = ((lo s ^^^ b : Nat) : Int) := xor_nat _ _ (lo_lt s) (by omega)
  have hp := lo_lt p
  have hx := xor_lt (lo_lt s) (show b < 65536 by omega)
  go_enter Tryz.func133, Tryz.ntmps133
  go_wp2
  go_loopg [8, 9] 8 (fun k s8 s9 wr => w = wr ∧ ∃ i : Nat, i ≤ 8 ∧ k = 8 - i ∧ s8 = .int .i64 ((itN (lo p) i (lo s ^^^ b) : Nat) : Int) ∧ s9 = .int .i64 i)
  case atStart => exact ⟨rfl, 0, Nat.zero_le _, rfl, rfl, rfl⟩
  case round =>
    obtain ⟨rfl, i, hi, rfl, rfl, rfl⟩ := hrel
    have hlt := itN_lt hp hx i
    by_cases h : i < 8
    · have hn : itN (lo p) (i + 1) (lo s ^^^ b) = bit1 (lo p) (itN (lo p) i (lo s ^^^ b)) := rfl
      have HN := Lib.hid hn
      clear hn
      generalize itN (lo p) i (lo s ^^^ b) = y at *
      have a1 := and_one y hlt
      by_cases h4 : y % 2 = 1
      · have hbq : (((y % 2 : Nat) : Int) == 1) = true := beq_iff_eq.2 (by omega)
        have hxx : bits .xor .i64 ((y : Int) / 2) ((lo p : Nat) : Int) = ((y / 2 ^^^ lo p : Nat) : Int) := xor_nat (y / 2) _ (by omega) hp
        have E := Lib.hid (show bit1 (lo p) y = y / 2 ^^^ lo p from if_pos h4)
        clear h4
        go_wp2
        go_roundg (8 - (i + 1))
        case measure => omega
        case rel => exact ⟨rfl, i + 1, by omega, rfl, by rw [HN.out, E.out], by go_num⟩
      · have hbq : (((y % 2 : Nat) : Int) == 1) = false := beq_eq_false_iff_ne.2 (by omega)
        have E := Lib.hid (show bit1 (lo p) y = y / 2 from if_neg h4)
        clear h4
        go_wp2
        go_roundg (8 - (i + 1))
        case measure => omega
        case rel => exact ⟨rfl, i + 1, by omega, rfl, by rw [HN.out, E.out]; rfl, by go_num⟩
    · have he : Hid (itN (lo p) i (lo s ^^^ b) = stepN (lo p) (lo s) b) := Lib.hid (by rw [show i = 8 by omega]; rfl)
      go_wp2
      go_ret
      rw [he.out]
      exact ⟨rfl, rfl⟩

set_option maxRecDepth 100000 in
set_option maxHeartbeats 1000000 in
theorem refSum_any (p s : Nat) (v : Value) (l : List UInt8) (w : World) (hp : p < 65536) (hs : s < 65536) (hv : BytesAt w v l) (hm : l.length ≤ maxLen) : Calls Tryz.prog 102 #[.int .i64 (p : Int), .int .i64 (s : Int), v] w fun e w' => e = .returned (.int .i64 ((runN p s l : Nat) : Int)) ∧ w = w' := by
  obtain ⟨ao, cap, rfl, hc⟩ := hv
  unfold maxLen at hm
  have HC := Lib.hid hc
  clear hc
  go_enter Tryz.func102, Tryz.ntmps102
  go_wp2
  go_loopg [1, 7] l.length (fun k s1 s7 wr => w = wr ∧ ∃ i : Nat, i ≤ l.length ∧ k = l.length - i ∧ s1 = .int .i64 ((runN p s (l.take i) : Nat) : Int) ∧ s7 = .int .i64 i)
  case atStart => exact ⟨rfl, 0, Nat.zero_le _, rfl, rfl, rfl⟩
  case round =>
    obtain ⟨rfl, i, hi, rfl, rfl, rfl⟩ := hrel
    have hlt := runN_lt hp (l.take i) s hs
    by_cases h : i < l.length
    · obtain ⟨b, off, rfl, hcell⟩ := HC.out i h
      have HT := Lib.hid (runN_take p s l i h)
      have hb := cbyte_lt l[i]
      generalize l[i].toNat = x at *
      have L1 := Lib.hid (lo_nat p hp)
      have L2 := Lib.hid (lo_nat _ hlt)
      go_wp2_with fail
      refine (refStep_any _ _ x w hb).mono ?_
      rintro e w' ⟨rfl, rfl⟩
      rw [L1.out, L2.out]
      go_wp2
      go_roundg (l.length - (i + 1))
      case measure => omega
      case rel => exact ⟨rfl, i + 1, by omega, rfl, by rw [HT.out], by go_num⟩
    · have he : Hid (runN p s (l.take i) = runN p s l) := Lib.hid (by rw [List.take_of_length_le (by omega)])
      go_wp2
      go_ret
      rw [he.out]
      exact ⟨rfl, rfl⟩

theorem mod_lt (l : List UInt8) : runN 40961 65535 l < 65536 := runN_lt (by omega) l _ (by omega)
/-- The two sums. -/
def modN (l : List UInt8) : Nat := runN 40961 65535 l
theorem modN_lt (l : List UInt8) : modN l < 65536 := mod_lt l
theorem Modbus_any (v : Value) (l : List UInt8) (w : World) (hv : BytesAt w v l) (hm : l.length ≤ maxLen) : Calls Tryz.prog 58 #[v] w fun e w' => e = .returned (.int .i64 ((modN l : Nat) : Int)) ∧ w = w' := by
  have HV := Lib.hid hv
  have hl := mod_lt l
  clear hv
  go_enter Tryz.func58, Tryz.ntmps58
  go_wp2_with fail
  refine (run_any 40961 65535 v l w (by omega) (by omega) HV.out hm).mono ?_
  rintro e w' ⟨rfl, rfl⟩
  go_wp2
  go_ret
  exact ⟨rfl, rfl⟩
theorem refModbus_any (v : Value) (l : List UInt8) (w : World) (hv : BytesAt w v l) (hm : l.length ≤ maxLen) : Calls Tryz.prog 62 #[v] w fun e w' => e = .returned (.int .i64 ((modN l : Nat) : Int)) ∧ w = w' := by
  have HV := Lib.hid hv
  clear hv
  go_enter Tryz.func62, Tryz.ntmps62
  go_wp2_with fail
  refine (refSum_any 40961 65535 v l w (by omega) (by omega) HV.out hm).mono ?_
  rintro e w' ⟨rfl, rfl⟩
  go_wp2
  go_ret
  exact ⟨rfl, rfl⟩
end Go.Proofs.YtpocjmlkhophoaaGreatDoor
