/- crc.run, and the document's Step and sum. -/
import Derived.Test.YthcehcfeedikkaaCBase
import Derived.Deep.LoopGhost
import Derived.OwnWalk
import Derived.Maps.AppendAt
import Derived.Deep.AppendLies
import Derived.Lib.SliceRun
import Derived.Laws.IdiomStrings
namespace Go.Proofs.Ythcehcfeedikkaa
open Go.RowKit

set_option maxRecDepth 100000 in
set_option maxHeartbeats 1000000 in
theorem run_any (p s : Nat) (v : Value) (l : List UInt8) (w : World) (hp : p < 65536) (hs : s < 65536) (hv : BytesAt w v l) (hm : l.length ≤ maxLen) : Calls Try.prog 22 #[.int .u16 (p : Int), .int .u16 (s : Int), v] w fun e w' => e = .returned (.int .u16 ((runN p s l : Nat) : Int)) ∧ w = w' := by
  obtain ⟨ao, cap, rfl, hc⟩ := hv
  unfold maxLen at hm
  have HC := Lib.hid hc
  clear hc
  go_enter Try.func22, Try.ntmps22
  go_wp2
  go_loopg [1, 11] l.length (fun k s1 s11 wr => w = wr ∧ ∃ i : Nat, i ≤ l.length ∧ k = l.length - i ∧ s1 = .int .u16 ((runN p s (l.take i) : Nat) : Int) ∧ s11 = .int .i64 i)
  case atStart => exact ⟨rfl, 0, Nat.zero_le _, rfl, rfl, rfl⟩
  case round =>
    obtain ⟨rfl, i, hi, rfl, rfl, rfl⟩ := hrel
    have hlt := runN_lt hp (l.take i) s hs
    by_cases h : i < l.length
    · obtain ⟨b, off, rfl, hcell⟩ := HC.out i h
      have HT := Lib.hid (runN_take p s l i h)
      have hb := byte_lt l[i]
      generalize l[i].toNat = x at *
      go_wp2_with fail
      refine (step_any p _ x w hp hlt hb).mono ?_
      rintro e w' ⟨rfl, rfl⟩
      go_wp2
      go_roundg (l.length - (i + 1))
      case measure => omega
      case rel => exact ⟨rfl, i + 1, by omega, rfl, by rw [HT.out], by go_num⟩
    · have he : Hid (runN p s (l.take i) = runN p s l) := Lib.hid (by rw [List.take_of_length_le (by omega)])
      go_wp2
      go_ret
      rw [he.out]
      exact ⟨rfl, rfl⟩

theorem mod_lt (l : List UInt8) : runN 40961 65535 l < 65536 := runN_lt (by omega) l _ (by omega)
theorem dnp_lt (l : List UInt8) : runN 42684 0 l < 65536 := runN_lt (by omega) l _ (by omega)
/-- The two sums. -/
def modN (l : List UInt8) : Nat := runN 40961 65535 l
def dnpN (l : List UInt8) : Nat := runN 42684 0 l ^^^ 65535
theorem modN_lt (l : List UInt8) : modN l < 65536 := mod_lt l
theorem dnpN_lt (l : List UInt8) : dnpN l < 65536 := xor_lt (dnp_lt l) (by omega)

theorem Modbus_any (v : Value) (l : List UInt8) (w : World) (hv : BytesAt w v l) (hm : l.length ≤ maxLen) : Calls Try.prog 21 #[v] w fun e w' => e = .returned (.int .i64 ((modN l : Nat) : Int)) ∧ w = w' := by
  have HV := Lib.hid hv
  have hl := mod_lt l
  clear hv
  go_enter Try.func21, Try.ntmps21
  go_wp2_with fail
  refine (run_any 40961 65535 v l w (by omega) (by omega) HV.out hm).mono ?_
  rintro e w' ⟨rfl, rfl⟩
  go_wp2
  go_ret
  exact ⟨rfl, rfl⟩
end Go.Proofs.Ythcehcfeedikkaa
