/- yardlaw3.CrcGoes answers true for every row of bytes and every number; memory that was there stands. -/
import Derived.Test.YtdmbdbonmnkjlaaSteps
import Derived.Test.YtdmbdbonmnkjlaaSums
import Derived.Deep.QuietTactic
import Derived.BigQuiet
namespace Go.Proofs.Ytdmbdbonmnkjlaa
open Go.RowKit

theorem quiet_of {f : FuncId} {args : Array Value} {w : World} {n : Nat} {v : Value} (h : Calls Try.prog f args (w.drewN n) fun e w' => e = .returned v ∧ w.drewN n = w') : Calls Try.prog f args (w.drewN n) fun e w'' => e = .returned v ∧ ∃ m, w'' = w.drewN m :=
  h.mono fun _ _ ⟨he, hm⟩ => ⟨he, n, hm.symm⟩
theorem BytesAt.drewN {w : World} {v : Value} {l : List UInt8} (h : BytesAt w v l) (n : Nat) : BytesAt (w.drewN n) v l := h.on (below_drew w n)
theorem BytesAt.head {w : World} {ao : Option Addr} {n cap : Nat} {l : List UInt8} (h : BytesAt w (.slice ao n cap) l) (k : Nat) (hk : k ≤ l.length) : BytesAt w (.slice ao k cap) (l.take k) := by
  obtain ⟨a', c', e, hc⟩ := h
  simp only [Value.slice.injEq] at e
  obtain ⟨rfl, _, rfl⟩ := e
  have hl : (l.take k).length = k := by simp; omega
  refine ⟨ao, cap, by rw [hl], fun i hi => ?_⟩
  rw [hl] at hi
  obtain ⟨b, off, ha, hcell⟩ := hc i (by omega)
  exact ⟨b, off, ha, by rw [hcell]; simp⟩

set_option maxRecDepth 100000 in
set_option maxHeartbeats 1000000 in
theorem goes_out (ao : Option Addr) (cap : Nat) (l : List UInt8) (n : Int) (w : World) (hm : l.length ≤ maxLen) (hout : 20000 < l.length ∨ n < 0 ∨ (l.length : Int) < n) : Calls Try.prog 9 #[.slice ao l.length cap, .int .i64 n] w fun e w' => e = .returned (.bool true) ∧ Below w.heap.size w w' := by
  unfold maxLen at hm
  have HO := Lib.hid hout
  clear hout
  by_cases h1 : 20000 < l.length
  · go_enter Try.func9, Try.ntmps9
    go_wp2_with fail
    refine (first_any w).mono ?_
    rintro e w1 ⟨rfl, h⟩
    have HB1 := Lib.hid h
    clear h
    go_wp2_with fail
    refine (first_any w1).mono ?_
    rintro e w2 ⟨rfl, h⟩
    have HB2 := Lib.hid (HB1.out.trans (h.mono HB1.out.size))
    clear h
    go_wp2
    go_ret
    exact ⟨rfl, HB2.out⟩
  by_cases h2 : n < 0
  · go_enter Try.func9, Try.ntmps9
    go_wp2_with fail
    refine (first_any w).mono ?_
    rintro e w1 ⟨rfl, h⟩
    have HB1 := Lib.hid h
    clear h
    go_wp2_with fail
    refine (first_any w1).mono ?_
    rintro e w2 ⟨rfl, h⟩
    have HB2 := Lib.hid (HB1.out.trans (h.mono HB1.out.size))
    clear h
    go_wp2
    go_ret
    exact ⟨rfl, HB2.out⟩
  have h3 : (l.length : Int) < n := by have := HO.out; omega
  go_enter Try.func9, Try.ntmps9
  go_wp2_with fail
  refine (first_any w).mono ?_
  rintro e w1 ⟨rfl, h⟩
  have HB1 := Lib.hid h
  clear h
  go_wp2_with fail
  refine (first_any w1).mono ?_
  rintro e w2 ⟨rfl, h⟩
  have HB2 := Lib.hid (HB1.out.trans (h.mono HB1.out.size))
  clear h
  go_wp2
  go_ret
  exact ⟨rfl, HB2.out⟩

set_option maxRecDepth 100000 in
set_option maxHeartbeats 1000000 in
theorem goes_in (ao : Option Addr) (cap : Nat) (l : List UInt8) (n : Nat) (w : World) (hv : BytesAt w (.slice ao l.length cap) l) (hc : l.length ≤ cap) (hl : l.length ≤ 20000) (hn : n ≤ l.length) : Calls Try.prog 9 #[.slice ao l.length cap, .int .i64 (n : Int)] w fun e w' => e = .returned (.bool true) ∧ Below w.heap.size w w' := by
  have HV := Lib.hid hv
  have hnc : n ≤ cap := by omega
  have hml : Hid (l.length ≤ maxLen ∧ (l.take n).length ≤ maxLen) := Lib.hid (by unfold maxLen; simp; omega)
  clear hv
  have hx : bits .xor .i64 ((dnpN (l.take n) : Nat) : Int) 65535 = ((runN 42684 0 (l.take n) : Nat) : Int) := by
    rw [show (65535 : Int) = ((65535 : Nat) : Int) from rfl, xor_nat _ 65535 (dnpN_lt _) (by omega)]
    unfold dnpN
    rw [Nat.xor_assoc, Nat.xor_self, Nat.xor_zero]
  have hy : bits .xor .i64 ((runN 42684 0 l : Nat) : Int) 65535 = ((dnpN l : Nat) : Int) := xor_nat _ 65535 (dnp_lt l) (by omega)
  cases ao with
  | none =>
    have hb1 : decide (20000 < (l.length : Int)) = false := by simp; omega
    have hb2 : decide ((n : Int) < 0) = false := by simp
    have hb3 : decide (l.length < n) = false := by simp; omega
    go_enter Try.func9, Try.ntmps9
    go_wp2_with fail
    refine (first_any w).mono ?_
    rintro e w1 ⟨rfl, h⟩
    have HB1 := Lib.hid h
    have HH := Lib.hid ((HV.out.on h).head n hn)
    clear h
    go_wp2_with fail
    go_quiet ((first | (go_at_call 13; exact quiet_of (Modbus_any _ _ _ (HH.out.drewN _) hml.out.2)) | (go_at_call 15; exact quiet_of (Dnp_any _ _ _ (HH.out.drewN _) hml.out.2))))
    go_wp2_with fail
    obtain ⟨wq, hq⟩ : ∃ x, x = w1.drewN nq := ⟨_, rfl⟩
    have HBq : Hid (Below w.heap.size w wq) := Lib.hid (by rw [hq]; exact below_drewN HB1.out nq)
    have HVq := Lib.hid (HV.out.on HBq.out)
    rw [← hq]
    clear hq hx
    go_loopg [5, 6, 7] (l.length - n) (fun k s5 s6 s7 wr => wq = wr ∧ ∃ i : Nat, n ≤ i ∧ i ≤ l.length ∧ k = l.length - i ∧ s5 = .int .i64 ((modN (l.take i) : Nat) : Int) ∧ s6 = .int .i64 ((runN 42684 0 (l.take i) : Nat) : Int) ∧ s7 = .int .i64 i)
    case atStart => exact ⟨rfl, n, Nat.le_refl _, hn, rfl, rfl, rfl, rfl⟩
    case round =>
      obtain ⟨rfl, i, hni, hi, rfl, rfl, rfl, rfl⟩ := hrel
      by_cases h : i < l.length
      · obtain ⟨bo', cap', hv', hcl⟩ := HVq.out
        simp only [Value.slice.injEq] at hv'
        obtain ⟨rfl, _, rfl⟩ := hv'
        obtain ⟨b, off, hbo, hcell⟩ := hcl i h
        cases hbo
      · have he : Hid (l.take i = l) := Lib.hid (List.take_of_length_le (by omega))
        rw [he.out]
        go_wp2_with fail
        refine (first_any wq).mono ?_
        rintro e w2 ⟨rfl, h2⟩
        have HB2 := Lib.hid (HBq.out.trans (h2.mono HBq.out.size))
        have HV2 := Lib.hid (HV.out.on HB2.out)
        clear h2
        go_wp2_with fail
        refine (Modbus_any _ l w2 HV2.out hml.out.1).mono ?_
        rintro e w3 ⟨rfl, rfl⟩
        go_wp2_with fail
        refine (Dnp_any _ l w2 HV2.out hml.out.1).mono ?_
        rintro e w3 ⟨rfl, rfl⟩
        go_wp2
        go_ret
        exact ⟨rfl, HB2.out⟩
  | some ad =>
    have hb1 : decide (20000 < (l.length : Int)) = false := by simp; omega
    have hb2 : decide ((n : Int) < 0) = false := by simp
    have hb3 : decide (l.length < n) = false := by simp; omega
    go_enter Try.func9, Try.ntmps9
    go_wp2_with fail
    refine (first_any w).mono ?_
    rintro e w1 ⟨rfl, h⟩
    have HB1 := Lib.hid h
    have HH := Lib.hid ((HV.out.on h).head n hn)
    clear h
    go_wp2_with fail
    go_quiet ((first | (go_at_call 13; exact quiet_of (Modbus_any _ _ _ (HH.out.drewN _) hml.out.2)) | (go_at_call 15; exact quiet_of (Dnp_any _ _ _ (HH.out.drewN _) hml.out.2))))
    go_wp2_with fail
    obtain ⟨wq, hq⟩ : ∃ x, x = w1.drewN nq := ⟨_, rfl⟩
    have HBq : Hid (Below w.heap.size w wq) := Lib.hid (by rw [hq]; exact below_drewN HB1.out nq)
    have HVq := Lib.hid (HV.out.on HBq.out)
    rw [← hq]
    clear hq hx
    go_loopg [5, 6, 7] (l.length - n) (fun k s5 s6 s7 wr => wq = wr ∧ ∃ i : Nat, n ≤ i ∧ i ≤ l.length ∧ k = l.length - i ∧ s5 = .int .i64 ((modN (l.take i) : Nat) : Int) ∧ s6 = .int .i64 ((runN 42684 0 (l.take i) : Nat) : Int) ∧ s7 = .int .i64 i)
    case atStart => exact ⟨rfl, n, Nat.le_refl _, hn, rfl, rfl, rfl, rfl⟩
    case round =>
      obtain ⟨rfl, i, hni, hi, rfl, rfl, rfl, rfl⟩ := hrel
      by_cases h : i < l.length
      · obtain ⟨bo', cap', hv', hcl⟩ := HVq.out
        simp only [Value.slice.injEq] at hv'
        obtain ⟨rfl, _, rfl⟩ := hv'
        obtain ⟨b, off, hbo, hcell⟩ := hcl i h
        cases hbo
        clear hcl
        have HT := Lib.hid (runN_take 40961 65535 l i h)
        have HU := Lib.hid (runN_take 42684 0 l i h)
        have hb := byte_lt l[i]
        generalize l[i].toNat = x at *
        have L1 : Hid (lo ((modN (l.take i) : Nat) : Int) = modN (l.take i)) := Lib.hid (lo_nat _ (modN_lt _))
        have L2 : Hid (lo ((runN 42684 0 (l.take i) : Nat) : Int) = runN 42684 0 (l.take i)) := Lib.hid (lo_nat _ (dnp_lt _))
        have L3 : Hid (lo 40961 = 40961 ∧ lo 42684 = 42684) := Lib.hid ⟨rfl, rfl⟩
        go_wp2_with fail
        refine (Step_any _ _ x wq hb).mono ?_
        rintro e w' ⟨rfl, rfl⟩
        rw [L1.out, L3.out.1]
        go_wp2_with fail
        refine (Step_any _ _ x wq hb).mono ?_
        rintro e w' ⟨rfl, rfl⟩
        rw [L2.out, L3.out.2]
        go_wp2
        go_roundg (l.length - (i + 1))
        case measure => omega
        case rel => exact ⟨rfl, i + 1, by omega, by omega, rfl, by unfold modN; rw [HT.out], by rw [HU.out], by go_num⟩
      · have he : Hid (l.take i = l) := Lib.hid (List.take_of_length_le (by omega))
        rw [he.out]
        go_wp2_with fail
        refine (first_any wq).mono ?_
        rintro e w2 ⟨rfl, h2⟩
        have HB2 := Lib.hid (HBq.out.trans (h2.mono HBq.out.size))
        have HV2 := Lib.hid (HV.out.on HB2.out)
        clear h2
        go_wp2_with fail
        refine (Modbus_any _ l w2 HV2.out hml.out.1).mono ?_
        rintro e w3 ⟨rfl, rfl⟩
        go_wp2_with fail
        refine (Dnp_any _ l w2 HV2.out hml.out.1).mono ?_
        rintro e w3 ⟨rfl, rfl⟩
        go_wp2
        go_ret
        exact ⟨rfl, HB2.out⟩

theorem goes_any (ao : Option Addr) (cap : Nat) (l : List UInt8) (n : Int) (w : World) (hv : BytesAt w (.slice ao l.length cap) l) (hc : l.length ≤ cap) (hm : l.length ≤ maxLen) : Calls Try.prog 9 #[.slice ao l.length cap, .int .i64 n] w fun e w' => e = .returned (.bool true) ∧ Below w.heap.size w w' := by
  by_cases h : 20000 < l.length ∨ n < 0 ∨ (l.length : Int) < n
  · exact goes_out ao cap l n w hm h
  · obtain ⟨m, rfl⟩ : ∃ m : Nat, n = (m : Int) := ⟨n.toNat, by omega⟩
    exact goes_in ao cap l m w hv hc (by omega) (by omega)
end Go.Proofs.Ytdmbdbonmnkjlaa
