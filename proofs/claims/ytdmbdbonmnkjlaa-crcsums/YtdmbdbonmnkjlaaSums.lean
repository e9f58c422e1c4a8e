/- yardlaw3.CrcSums answers true for every row of bytes; memory that was there stands. -/
import Derived.Test.YtdmbdbonmnkjlaaFirst
namespace Go.Proofs.Ytdmbdbonmnkjlaa
open Go.RowKit

theorem copyIs_form {w w' : World} {l : List UInt8} {e : Ending} (h : CopyIs w l e w') : ∃ ao cap, e = .returned (.slice ao l.length cap) ∧ w'.ownsRow w.heap.size 5 1 (.slice ao l.length cap) l.length (bcells l) ∧ BytesAt w' (.slice ao l.length cap) l ∧ Below w.heap.size w w' := by
  obtain ⟨v', rfl, ho, hb⟩ := h
  have hbt := bytesAt_own ho
  rcases ho.2 with ⟨hv, h0⟩ | ⟨g, cap', cur, hv, _⟩
  · rw [h0]
    subst hv
    refine ⟨none, 0, rfl, ?_, ?_, hb⟩
    · rw [h0] at ho; exact ho
    · exact hbt
  · subst hv
    exact ⟨_, _, rfl, ho, hbt, hb⟩

set_option maxRecDepth 100000 in
set_option maxHeartbeats 1000000 in
theorem sums_any (v : Value) (l : List UInt8) (w : World) (hv : BytesAt w v l) (hm : l.length ≤ maxLen) : Calls Try.prog 3 #[v] w fun e w' => e = .returned (.bool true) ∧ Below w.heap.size w w' := by
  have HV := Lib.hid hv
  have HM := Lib.hid hm
  unfold maxLen at hm
  obtain ⟨ao, cap, rfl, _⟩ := hv
  by_cases hl : 20000 < l.length
  · go_enter Try.func3, Try.ntmps3
    go_wp2_with fail
    refine (first_any w).mono ?_
    rintro e w1 ⟨rfl, h⟩
    have HB1 := Lib.hid h
    clear h
    go_wp2_with fail
    refine (first_any w1).mono ?_
    rintro e w2 ⟨rfl, h⟩
    have HB2 := Lib.hid (HB1.out.trans (h.mono HB1.out.size))
    clear h
    go_wp2
    go_ret
    exact ⟨rfl, HB2.out⟩
  · go_enter Try.func3, Try.ntmps3
    go_wp2_with fail
    refine (first_any w).mono ?_
    rintro e w1 ⟨rfl, h⟩
    have HB1 := Lib.hid h
    clear h
    go_wp2_with fail
    refine (copy_any _ l w1 (HV.out.on HB1.out) (by omega)).mono ?_
    intro e w2 h
    obtain ⟨a2, c2, rfl, _, hi, h⟩ := copyIs_form h
    have HI2 := Lib.hid hi
    have HB2 := Lib.hid (HB1.out.trans (h.mono HB1.out.size))
    clear h hi
    go_wp2_with fail
    refine (first_any w2).mono ?_
    rintro e w3 ⟨rfl, h⟩
    have HI3 := Lib.hid (HI2.out.on h)
    have HB3 := Lib.hid (HB2.out.trans (h.mono HB2.out.size))
    have HV3 := Lib.hid (HV.out.on HB3.out)
    clear h
    go_wp2_with fail
    refine (Modbus_any _ l w3 HI3.out HM.out).mono ?_
    rintro e w4 ⟨rfl, rfl⟩
    go_wp2_with fail
    refine (refModbus_any _ l w3 HV3.out HM.out).mono ?_
    rintro e w4 ⟨rfl, rfl⟩
    go_wp2_with fail
    refine (Dnp_any _ l w3 HI3.out HM.out).mono ?_
    rintro e w4 ⟨rfl, rfl⟩
    go_wp2_with fail
    refine (refDnp_any _ l w3 HV3.out HM.out).mono ?_
    rintro e w4 ⟨rfl, rfl⟩
    go_wp2_with fail
    refine (alike_any _ _ l l w3 HI3.out HV3.out).mono ?_
    rintro e w4 ⟨rfl, rfl⟩
    rw [show (l == l) = true by simp]
    go_wp2
    go_ret
    exact ⟨rfl, HB3.out⟩
end Go.Proofs.Ytdmbdbonmnkjlaa
