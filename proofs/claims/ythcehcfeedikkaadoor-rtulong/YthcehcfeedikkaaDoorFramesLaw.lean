/- yardlaw8.RtuFrames answers true for every argument; memory that was there stands. -/
import Derived.Test.YthcehcfeedikkaaDoorFrames
namespace Go.Proofs.YthcehcfeedikkaaDoor
open Go.RowKit Go.Extern.Stop Go.Stop Go.Extern

set_option maxRecDepth 100000 in
set_option maxHeartbeats 2000000 in
theorem frames_out (addr : Int) (ao bo : Option Addr) (na nb ca cb : Nat) (w : World) (ha : na ≤ 9223372036854775807) (hb' : nb ≤ 9223372036854775807) (h : 3000 < na ∨ 3000 < nb) : Calls Tryd.prog 3 #[.int .i64 addr, .slice ao na ca, .slice bo nb cb] w (TrueIs w) := by
  have hl : (3000 : Int) < (na : Int) ∨ (¬ (3000 : Int) < (na : Int) ∧ (3000 : Int) < (nb : Int)) := by omega
  clear h
  rcases hl with q1 | ⟨q1, q2⟩ <;> (
    go_enter Tryd.func3, Tryd.ntmps3
    go_wp2_with fail
    refine (first_any w).mono ?_
    rintro e w1 ⟨rfl, hb⟩
    have X1 := Lib.hid hb
    clear hb
    go_wp2_with fail
    refine (first_any w1).mono ?_
    rintro e w2 ⟨rfl, hb⟩
    have X2 := Lib.hid (X1.out.trans (hb.mono X1.out.size))
    clear hb
    go_wp2
    go_ret
    exact ⟨rfl, X2.out⟩)

theorem sl_form {w : World} {code c : Int} {x : ByteArray × Int} {sl : Value} (k : (code = 0 ∧ c = 0 ∧ sl = .slice none 0 0) ∨ (code ≠ 0 ∧ c = code ∧ StepsOwn w sl [x])) : ∃ a n k, sl = .slice a n k := by
  rcases k with ⟨_, _, rfl⟩ | ⟨_, _, ⟨a, c, rfl, _⟩⟩
  · exact ⟨_, _, _, rfl⟩
  · exact ⟨_, _, _, rfl⟩
theorem errR_on {w w' : World} {code x : Int} {err : Value} (h : (code = 0 ∧ err = .nilIface) ∨ (code ≠ 0 ∧ RErr w x code err)) (hb : Below w.heap.size w w') : (code = 0 ∧ err = .nilIface) ∨ (code ≠ 0 ∧ RErr w' x code err) := by
  rcases h with h | ⟨h0, hx⟩
  · exact .inl h
  · exact .inr ⟨h0, hx.on hb⟩
theorem errS_on {w w' : World} {code c : Int} {x : ByteArray × Int} {sl : Value} (h : (code = 0 ∧ c = 0 ∧ sl = .slice none 0 0) ∨ (code ≠ 0 ∧ c = code ∧ StepsOwn w sl [x])) (hb : Below w.heap.size w w') : (code = 0 ∧ c = 0 ∧ sl = .slice none 0 0) ∨ (code ≠ 0 ∧ c = code ∧ StepsOwn w' sl [x]) := by
  rcases h with h | ⟨h0, hc, hx⟩
  · exact .inl h
  · exact .inr ⟨h0, hc, hx.on hb⟩
theorem copyIs_form {w w' : World} {l : List UInt8} {e : Ending} (h : CopyIs w l e w') : ∃ ao cap, e = .returned (.slice ao l.length cap) ∧ BytesAt w' (.slice ao l.length cap) l ∧ Below w.heap.size w w' := by
  obtain ⟨v', rfl, ho, hb⟩ := h
  obtain ⟨a, c, rfl⟩ := row_form ho
  exact ⟨a, c, rfl, bytesAt_own ho, hb⟩

set_option maxRecDepth 100000 in
set_option maxHeartbeats 4000000 in
theorem frames_in (addr : Int) (ao bo : Option Addr) (ca cb : Nat) (a b : List UInt8) (w : World) (hg : ErrT w) (hva : BytesAt w (.slice ao a.length ca) a) (hvb : BytesAt w (.slice bo b.length cb) b) (hcb : b.length ≤ cb) (ha : a.length ≤ 3000) (hb' : b.length ≤ 3000) : Calls Tryd.prog 3 #[.int .i64 addr, .slice ao a.length ca, .slice bo b.length cb] w (TrueIs w) := by
  have HA := Lib.hid hva
  have HB := Lib.hid hvb
  have HG := Lib.hid hg
  have HCB := Lib.hid hcb
  have d1 : decide ((3000 : Int) < (a.length : Int)) = false := decide_eq_false (by omega)
  have d2 : decide ((3000 : Int) < (b.length : Int)) = false := decide_eq_false (by omega)
  clear hva hvb hg hcb
  go_enter Tryd.func3, Tryd.ntmps3
  go_wp2_with fail
  refine (first_any w).mono ?_
  rintro e w1 ⟨rfl, hb⟩
  have X1 := Lib.hid hb
  clear hb
  go_wp2_with fail
  refine (copy_any _ a w1 (HA.out.on X1.out) (by omega)).mono ?_
  intro e w2 h
  obtain ⟨ai, ci, rfl, hbi, hb⟩ := copyIs_form h
  have C2 := Lib.hid hbi
  have X2 := Lib.hid (X1.out.trans (hb.mono X1.out.size))
  clear h hbi hb
  go_wp2_with fail
  refine (frame_res addr ai ci a w2 C2.out ha).mono ?_
  rintro e w3 ⟨v3, err3, rfl, ⟨m3, hr3, hm3, hm3'⟩, he3, hb⟩
  have C3 := Lib.hid (C2.out.on hb)
  have X3 := Lib.hid (X2.out.trans (hb.mono X2.out.size))
  have R3 := Lib.hid (bytesAt_own hr3)
  have E3 := Lib.hid he3
  obtain ⟨a3, c3, rfl⟩ := row_form hr3
  clear hr3 he3 hb
  go_wp2_with fail
  refine (rframe_res addr ao ca a w3 (HA.out.on X3.out)).mono ?_
  rintro e w4 ⟨v4, c4, sl4, rfl, ⟨m4, hr4, hm4, hm4'⟩, he4, hb⟩
  have hmm : m4 = m3 := by
    by_cases h : frCode addr a.length = 0
    · rw [hm4 h, hm3 h]
    · rw [hm4' h, hm3' h]
  subst hmm
  have C4 := Lib.hid (C3.out.on hb)
  have X4 := Lib.hid (X3.out.trans (hb.mono X3.out.size))
  have R4 := Lib.hid (R3.out.on hb)
  have S4 := Lib.hid (bytesAt_own hr4)
  have E4 := Lib.hid (errR_on E3.out hb)
  obtain ⟨as4, ns4, ks4, rfl⟩ := sl_form he4
  have F4 := Lib.hid he4
  obtain ⟨a4, k4, rfl⟩ := row_form hr4
  clear hr4 he4 hb hm3 hm3' hm4 hm4' E3
  obtain ⟨w5, hw5⟩ : ∃ x, x = w4.alloc (.cells #[.int .i64 c4, .slice as4 ns4 ks4] 32) := ⟨_, rfl⟩
  have N5 : Below w4.heap.size w4 w5 := by rw [hw5]; exact below_new _ _
  have X5 := Lib.hid (X4.out.trans (N5.mono X4.out.size))
  have C5 := Lib.hid (C4.out.on N5)
  have R5 := Lib.hid (R4.out.on N5)
  have S5 := Lib.hid (S4.out.on N5)
  have E5 := Lib.hid (errR_on E4.out N5)
  have F5 := Lib.hid (errS_on F4.out N5)
  have B5 : Hid (BoxE w5 w4.heap.size c4 (.slice as4 ns4 ks4)) := Lib.hid (by rw [hw5]; exact heap_alloc_new w4 _)
  clear N5
  clear C4 R4 S4 E4 F4
  go_wp2_with (rw [← hw5]; clear hw5; go_at_call 10; refine (open_res bo cb b w5 (HB.out.on X5.out) HCB.out).mono ?_)
  generalize w4.heap.size = k5 at *
  rintro e w6 ⟨v6, err6, rfl, hr6, he6, hb⟩
  have X6 := Lib.hid (X5.out.trans (hb.mono X5.out.size))
  have C6 := Lib.hid (C5.out.on hb)
  have R6 := Lib.hid (R5.out.on hb)
  have S6 := Lib.hid (S5.out.on hb)
  have E6 := Lib.hid (errR_on E5.out hb)
  have F6 := Lib.hid (errS_on F5.out hb)
  have B6 := Lib.hid (B5.out.on hb)
  have Q6 := Lib.hid (bytesAt_own hr6)
  have G6 := Lib.hid he6
  obtain ⟨a6, q6, rfl⟩ := row_form hr6
  clear hr6 he6 hb C5 R5 S5 E5 F5 B5
  generalize hOR : opRow b = ob at *
  generalize hOA : opAddr b = oad at *
  have HOR := Lib.hid hOR
  have HOA := Lib.hid hOA
  clear hOR hOA
  go_wp2_with fail
  refine (ropen_res bo cb b w6 (HB.out.on X6.out) HCB.out hb').mono ?_
  rintro e w7 ⟨v7, c7, sl7, rfl, hr7, he7, hb⟩
  rw [HOR.out] at hr7
  rw [HOA.out]
  have X7 := Lib.hid (X6.out.trans (hb.mono X6.out.size))
  have C7 := Lib.hid (C6.out.on hb)
  have R7 := Lib.hid (R6.out.on hb)
  have S7 := Lib.hid (S6.out.on hb)
  have E7 := Lib.hid (errR_on E6.out hb)
  have F7 := Lib.hid (errS_on F6.out hb)
  have B7 := Lib.hid (B6.out.on hb)
  have Q7 := Lib.hid (Q6.out.on hb)
  have G7 := Lib.hid (errR_on G6.out hb)
  have P7 := Lib.hid (bytesAt_own hr7)
  obtain ⟨as7, ns7, ks7, rfl⟩ := sl_form he7
  have H7 := Lib.hid he7
  obtain ⟨a7, q7, rfl⟩ := row_form hr7
  clear hr7 he7 hb C6 R6 S6 E6 F6 B6 Q6 G6
  obtain ⟨w8, hw8⟩ : ∃ x, x = w7.alloc (.cells #[.int .i64 c7, .slice as7 ns7 ks7] 32) := ⟨_, rfl⟩
  have N8 : Below w7.heap.size w7 w8 := by rw [hw8]; exact below_new _ _
  have X8 := Lib.hid (X7.out.trans (N8.mono X7.out.size))
  have C8 := Lib.hid (C7.out.on N8)
  have R8 := Lib.hid (R7.out.on N8)
  have S8 := Lib.hid (S7.out.on N8)
  have E8 := Lib.hid (errR_on E7.out N8)
  have F8 := Lib.hid (errS_on F7.out N8)
  have B8 := Lib.hid (B7.out.on N8)
  have Q8 := Lib.hid (Q7.out.on N8)
  have G8 := Lib.hid (errR_on G7.out N8)
  have P8 := Lib.hid (P7.out.on N8)
  have H8 := Lib.hid (errS_on H7.out N8)
  have D8 : Hid (BoxE w8 w7.heap.size c7 (.slice as7 ns7 ks7)) := Lib.hid (by rw [hw8]; exact heap_alloc_new w7 _)
  clear N8 C7 R7 S7 E7 F7 B7 Q7 G7 P7 H7
  go_wp2_with (rw [← hw8]; clear hw8; go_at_call 6; refine (first_any w8).mono ?_)
  generalize w7.heap.size = k8 at *
  rintro e w9 ⟨rfl, hb⟩
  have X9 := Lib.hid (X8.out.trans (hb.mono X8.out.size))
  have C9 := Lib.hid (C8.out.on hb)
  have R9 := Lib.hid (R8.out.on hb)
  have S9 := Lib.hid (S8.out.on hb)
  have E9 := Lib.hid (errR_on E8.out hb)
  have F9 := Lib.hid (errS_on F8.out hb)
  have B9 := Lib.hid (B8.out.on hb)
  have Q9 := Lib.hid (Q8.out.on hb)
  have G9 := Lib.hid (errR_on G8.out hb)
  have P9 := Lib.hid (P8.out.on hb)
  have H9 := Lib.hid (errS_on H8.out hb)
  have D9 := Lib.hid (D8.out.on hb)
  clear hb C8 R8 S8 E8 F8 B8 Q8 G8 P8 H8 D8
  go_wp2_with fail
  refine (alike_any _ _ _ _ w9 R9.out S9.out).mono ?_
  rintro e w10 ⟨rfl, rfl⟩
  rw [beq_self_eq_true]
  obtain ⟨b0, b1, _, _⟩ := B9.out.cells
  go_wp2_with fail
  refine (err_same _ _ _ _ _ w9 (HG.out.up X9.out) E9.out F9.out).mono ?_
  rintro e w10 ⟨rfl, hb⟩
  have X10 := Lib.hid (X9.out.trans (hb.mono X9.out.size))
  have C10 := Lib.hid (C9.out.on hb)
  have Q10 := Lib.hid (Q9.out.on hb)
  have G10 := Lib.hid (errR_on G9.out hb)
  have P10 := Lib.hid (P9.out.on hb)
  have H10 := Lib.hid (errS_on H9.out hb)
  have D10 := Lib.hid (D9.out.on hb)
  clear hb b0 b1 B9 C9 R9 S9 E9 F9 Q9 G9 P9 H9 D9
  have hoo : (oad == oad) = true := beq_self_eq_true _
  go_wp2_with fail
  refine (alike_any _ _ _ _ w10 Q10.out P10.out).mono ?_
  rintro e w11 ⟨rfl, rfl⟩
  rw [beq_self_eq_true]
  obtain ⟨b0, b1, _, _⟩ := D10.out.cells
  go_wp2_with fail
  refine (err_same _ _ _ _ _ w10 (HG.out.up X10.out) G10.out H10.out).mono ?_
  rintro e w12 ⟨rfl, hb⟩
  have X12 := Lib.hid (X10.out.trans (hb.mono X10.out.size))
  have C12 := Lib.hid (C10.out.on hb)
  clear hb b0 b1
  go_wp2_with fail
  refine (alike_any _ _ a a w12 C12.out (HA.out.on X12.out)).mono ?_
  rintro e w13 ⟨rfl, rfl⟩
  rw [beq_self_eq_true]
  go_wp2
  go_ret
  exact ⟨rfl, X12.out⟩

theorem frames_any (addr : Int) (ao bo : Option Addr) (ca cb : Nat) (a b : List UInt8) (w : World) (hg : ErrT w) (hva : BytesAt w (.slice ao a.length ca) a) (hvb : BytesAt w (.slice bo b.length cb) b) (hcb : b.length ≤ cb) (hla : a.length ≤ 9223372036854775807) (hlb : b.length ≤ 9223372036854775807) : Calls Tryd.prog 3 #[.int .i64 addr, .slice ao a.length ca, .slice bo b.length cb] w (TrueIs w) := by
  by_cases h : 3000 < a.length ∨ 3000 < b.length
  · exact frames_out addr ao bo a.length b.length ca cb w hla hlb h
  · exact frames_in addr ao bo ca cb a b w hg hva hvb hcb (by omega) (by omega)
end Go.Proofs.YthcehcfeedikkaaDoor
