/- yardlaw7.PduAnswers answers true for every request, every reply and every row of bytes; memory that was there stands. -/
import Derived.Test.YtaebbfdgchamaaaOthers
namespace Go.Proofs.Ytaebbfdgchamaaa
open Go.RowKit Go.Extern.Stop Go.Stop Go.Extern

set_option maxRecDepth 100000 in
set_option maxHeartbeats 4000000 in
theorem answers_any (r : Rq) (p : Rp) (v pv vb : Value) (b : List UInt8) (w : World) (hv : IntsAt w v r.vs) (hp : IntsAt w pv p.vs) (hy : BytesAt w vb b) : Calls Try.prog 4 #[r.val v, p.val pv, vb] w (Holds w) := by
  obtain ⟨f, s, c, vs⟩ := r
  obtain ⟨code, ps⟩ := p
  unfold Rq.val Rp.val
  dsimp only at hv hp ⊢
  have HV := Lib.hid hv
  have HP := Lib.hid hp
  have HY := Lib.hid hy
  obtain ⟨av, kv, rfl, _⟩ := id hv
  obtain ⟨ap, kp, rfl, _⟩ := id hp
  obtain ⟨ay, ky, rfl, _⟩ := id hy
  clear hv hp hy
  obtain ⟨wx, hwx⟩ : ∃ wx, wx = (w.alloc (.cells #[.int .i64 f, .int .i64 s, .int .i64 c, .slice av vs.length kv] 24)).alloc (.cells #[.int .i64 code, .slice ap ps.length kp] 38) := ⟨_, rfl⟩
  have T0 : Hid (Two w wx f s c (.slice av vs.length kv) code (.slice ap ps.length kp)) := Lib.hid (by rw [hwx]; exact two_new _ _ _ _ _ _ _)
  go_enter Try.func4, Try.ntmps4
  go_wp2_with fail
  rw [← hwx]
  clear hwx
  refine (first_any wx).mono ?_
  rintro e w1 ⟨rfl, hb⟩
  have T1 := Lib.hid (T0.out.on hb)
  clear hb
  obtain ⟨c0, c1, c2, c3⟩ := cells4 T1.out.2.1
  obtain ⟨p0, p1⟩ := T1.out.2.2.cells
  have quit : ∀ (W : World), Below w.heap.size w W → Hid (Calls Try.prog 11 #[] W (Holds w)) := fun W h => Lib.hid ((first_any W).mono fun e w' h' => ⟨h'.1, h.trans (h'.2.mono h.size)⟩)
  by_cases h1 : (3000 : Int) < (vs.length : Int)
  · go_wp2_with fail
    refine (quit _ T1.out.1).out.mono ?_
    rintro e wq ⟨rfl, hb⟩
    have HB := Lib.hid hb
    clear hb
    go_wp2
    go_ret
    exact ⟨rfl, HB.out⟩
  by_cases h2 : (3000 : Int) < (ps.length : Int)
  · go_wp2_with fail
    refine (quit _ T1.out.1).out.mono ?_
    rintro e wq ⟨rfl, hb⟩
    have HB := Lib.hid hb
    clear hb
    go_wp2
    go_ret
    exact ⟨rfl, HB.out⟩
  by_cases h3 : (3000 : Int) < (b.length : Int)
  · go_wp2_with fail
    refine (quit _ T1.out.1).out.mono ?_
    rintro e wq ⟨rfl, hb⟩
    have HB := Lib.hid hb
    clear hb
    go_wp2
    go_ret
    exact ⟨rfl, HB.out⟩
  have HL : Hid (vs.length ≤ 100000 ∧ ps.length ≤ 100000 ∧ b.length ≤ 100000) := Lib.hid (by omega)
  go_wp2_with fail
  rcases Bool.eq_false_or_eq_true (Rq.may ⟨f, s, c, vs⟩ && mayR ⟨f, s, c, vs⟩ ⟨code, ps⟩) with hm | hm
  · have HM := Lib.hid (by rwa [Bool.and_eq_true] at hm : Rq.may ⟨f, s, c, vs⟩ = true ∧ mayR ⟨f, s, c, vs⟩ ⟨code, ps⟩ = true)
    clear hm
    refine (ans_ok ⟨f, s, c, vs⟩ ⟨code, ps⟩ _ _ w1 (HV.out.on T1.out.1) (HP.out.on T1.out.1) HM.out.1 HM.out.2 HL.out.1 HL.out.2.1).mono ?_
    intro e w2 h
    obtain ⟨a2, k2, rfl, hx, _, hb⟩ := h.form
    have T2 := Lib.hid (T1.out.on hb)
    have X2 := Lib.hid hx
    have HLA := Lib.hid (ansF_length HM.out.1 HM.out.2)
    have HRD := Lib.hid (readB_ans HM.out.1 HM.out.2)
    have HPR := Lib.hid (parseR_ans HM.out.1 HM.out.2)
    clear h hx hb c0 c1 c2 c3 p0 p1
    generalize ansF ⟨f, s, c, vs⟩ ⟨code, ps⟩ = x at *
    obtain ⟨c0, c1, c2, c3⟩ := cells4 T2.out.2.1
    go_wp2_with fail
    refine (read_yes ⟨f, s, c, vs⟩ _ _ x w2 (HV.out.on T2.out.1) X2.out HL.out.1 (by have := HLA.out; omega) HM.out.1 HRD.out).mono ?_
    rw [HPR.out]
    rintro e w3 ⟨v3, rfl, hx, hb⟩
    unfold Rp.val
    dsimp only at hx ⊢
    obtain ⟨a3, k3, rfl⟩ := row_slice hx
    have T3 := Lib.hid (T2.out.on hb)
    have X3 := Lib.hid (intsAt_own hx)
    clear hx hb c0 c1 c2 c3
    have T4 : Hid (Two w (w3.alloc (.cells #[.int .i64 code, .slice a3 ps.length k3] 38)) f s c (.slice av vs.length kv) code (.slice ap ps.length kp)) := Lib.hid (T3.out.on (below_new _ _))
    obtain ⟨p0, p1⟩ := T4.out.2.2.cells
    go_wp2_with fail
    refine (ints_any _ _ ps ps _ (X3.out.on (below_new _ _)) (HP.out.on T4.out.1) (by have := HL.out.2.1; omega)).mono ?_
    rw [beq_self_eq_true]
    rintro e w4 ⟨rfl, hb⟩
    have T5' := Lib.hid (T4.out.on hb)
    have hx1 : (x.length : Int) ≤ 253 := by have := HLA.out.2; omega
    clear hb p0 p1
    obtain ⟨c0, c1, c2, c3⟩ := cells4 T5'.out.2.1
    go_wp2_with fail
    rcases Bool.eq_false_or_eq_true (Rq.may ⟨f, s, c, vs⟩ && readB ⟨f, s, c, vs⟩ b) with hm2 | hm2
    · have HM2 := Lib.hid (by rwa [Bool.and_eq_true] at hm2 : Rq.may ⟨f, s, c, vs⟩ = true ∧ readB ⟨f, s, c, vs⟩ b = true)
      have HM3 := Lib.hid (readB_iff.1 HM2.out.2)
      have HPL := Lib.hid (parseR_length HM2.out.1 b)
      clear hm2
      refine (read_yes ⟨f, s, c, vs⟩ _ _ b w4 (HV.out.on T5'.out.1) (HY.out.on T5'.out.1) HL.out.1 HL.out.2.2 HM2.out.1 HM2.out.2).mono ?_
      rintro e w5 ⟨v5, rfl, hx, hb⟩
      generalize parseR ⟨f, s, c, vs⟩ b = q at *
      obtain ⟨qc, qs⟩ := q
      unfold Rp.val
      dsimp only at hx HPL ⊢
      obtain ⟨a5, k5, rfl⟩ := row_slice hx
      have T5 := Lib.hid (T5'.out.on hb)
      have X5 := Lib.hid (intsAt_own hx)
      clear hx hb c0 c1 c2 c3
      have T6 : Hid (Two w (w5.alloc (.cells #[.int .i64 qc, .slice a5 qs.length k5] 38)) f s c (.slice av vs.length kv) code (.slice ap ps.length kp)) := Lib.hid (T5.out.on (below_new _ _))
      have X6 : Hid (IntsAt (w5.alloc (.cells #[.int .i64 qc, .slice a5 qs.length k5] 38)) (.slice a5 qs.length k5) qs) := Lib.hid (X5.out.on (below_new _ _))
      obtain ⟨c0, c1, c2, c3⟩ := cells4 T6.out.2.1
      go_wp2_with fail
      refine (ans_ok ⟨f, s, c, vs⟩ ⟨qc, qs⟩ _ _ _ (HV.out.on T6.out.1) X6.out HM2.out.1 HM3.out.1 HL.out.1 (by show qs.length ≤ 100000; have := HPL.out; omega)).mono ?_
      intro e w7 h
      rw [HM3.out.2] at h
      obtain ⟨a7, k7, rfl, hx, _, hb⟩ := h.form
      have T7 := Lib.hid (T6.out.on hb)
      have X7 := Lib.hid hx
      clear h hx hb c0 c1 c2 c3
      go_wp2_with fail
      refine (first_any w7).mono ?_
      rintro e w8 ⟨rfl, hb⟩
      have HB := Lib.hid (T7.out.1.trans (hb.mono T7.out.1.size))
      have X8 := Lib.hid (X7.out.on hb)
      clear hb
      go_wp2_with fail
      refine (alike_any _ _ _ _ w8 X8.out (HY.out.on HB.out)).mono ?_
      rintro e w9 ⟨rfl, rfl⟩
      rw [beq_self_eq_true]
      go_wp2
      go_ret
      exact ⟨rfl, HB.out⟩
    · have HM2 := Lib.hid hm2
      clear hm2
      refine (read_no ⟨f, s, c, vs⟩ _ _ b w4 (HV.out.on T5'.out.1) (HY.out.on T5'.out.1) HL.out.1 HL.out.2.2 HM2.out).mono ?_
      intro e w5 h
      obtain ⟨b5, rfl, hb⟩ := h.form
      have T5 := Lib.hid (T5'.out.on hb)
      clear h hb c0 c1 c2 c3
      unfold Rp.zero
      go_wp2_with fail
      refine (quit _ (T5.out.1.alloc T5.out.1.size _)).out.mono ?_
      rintro e wq ⟨rfl, hb⟩
      have HB := Lib.hid hb
      clear hb
      go_wp2
      go_ret
      exact ⟨rfl, HB.out⟩
  · have HM := Lib.hid hm
    clear hm
    refine (ans_no ⟨f, s, c, vs⟩ ⟨code, ps⟩ _ _ w1 (HV.out.on T1.out.1) (HP.out.on T1.out.1) HM.out HL.out.1 HL.out.2.1).mono ?_
    intro e w2 h
    obtain ⟨b2, rfl, hb⟩ := h.form
    have T2 := Lib.hid (T1.out.on hb)
    clear h hb c0 c1 c2 c3 p0 p1
    obtain ⟨c0, c1, c2, c3⟩ := cells4 T2.out.2.1
    go_wp2_with fail
    rcases Bool.eq_false_or_eq_true (Rq.may ⟨f, s, c, vs⟩ && readB ⟨f, s, c, vs⟩ b) with hm2 | hm2
    · have HM2 := Lib.hid (by rwa [Bool.and_eq_true] at hm2 : Rq.may ⟨f, s, c, vs⟩ = true ∧ readB ⟨f, s, c, vs⟩ b = true)
      have HM3 := Lib.hid (readB_iff.1 HM2.out.2)
      have HPL := Lib.hid (parseR_length HM2.out.1 b)
      clear hm2
      refine (read_yes ⟨f, s, c, vs⟩ _ _ b w2 (HV.out.on T2.out.1) (HY.out.on T2.out.1) HL.out.1 HL.out.2.2 HM2.out.1 HM2.out.2).mono ?_
      rintro e w5 ⟨v5, rfl, hx, hb⟩
      generalize parseR ⟨f, s, c, vs⟩ b = q at *
      obtain ⟨qc, qs⟩ := q
      unfold Rp.val
      dsimp only at hx HPL ⊢
      obtain ⟨a5, k5, rfl⟩ := row_slice hx
      have T5 := Lib.hid (T2.out.on hb)
      have X5 := Lib.hid (intsAt_own hx)
      clear hx hb c0 c1 c2 c3
      have T6 : Hid (Two w (w5.alloc (.cells #[.int .i64 qc, .slice a5 qs.length k5] 38)) f s c (.slice av vs.length kv) code (.slice ap ps.length kp)) := Lib.hid (T5.out.on (below_new _ _))
      have X6 : Hid (IntsAt (w5.alloc (.cells #[.int .i64 qc, .slice a5 qs.length k5] 38)) (.slice a5 qs.length k5) qs) := Lib.hid (X5.out.on (below_new _ _))
      obtain ⟨c0, c1, c2, c3⟩ := cells4 T6.out.2.1
      go_wp2_with fail
      refine (ans_ok ⟨f, s, c, vs⟩ ⟨qc, qs⟩ _ _ _ (HV.out.on T6.out.1) X6.out HM2.out.1 HM3.out.1 HL.out.1 (by show qs.length ≤ 100000; have := HPL.out; omega)).mono ?_
      intro e w7 h
      rw [HM3.out.2] at h
      obtain ⟨a7, k7, rfl, hx, _, hb⟩ := h.form
      have T7 := Lib.hid (T6.out.on hb)
      have X7 := Lib.hid hx
      clear h hx hb c0 c1 c2 c3
      go_wp2_with fail
      refine (first_any w7).mono ?_
      rintro e w8 ⟨rfl, hb⟩
      have HB := Lib.hid (T7.out.1.trans (hb.mono T7.out.1.size))
      have X8 := Lib.hid (X7.out.on hb)
      clear hb
      go_wp2_with fail
      refine (alike_any _ _ _ _ w8 X8.out (HY.out.on HB.out)).mono ?_
      rintro e w9 ⟨rfl, rfl⟩
      rw [beq_self_eq_true]
      go_wp2
      go_ret
      exact ⟨rfl, HB.out⟩
    · have HM2 := Lib.hid hm2
      clear hm2
      refine (read_no ⟨f, s, c, vs⟩ _ _ b w2 (HV.out.on T2.out.1) (HY.out.on T2.out.1) HL.out.1 HL.out.2.2 HM2.out).mono ?_
      intro e w5 h
      obtain ⟨b5, rfl, hb⟩ := h.form
      have T5 := Lib.hid (T2.out.on hb)
      clear h hb c0 c1 c2 c3
      unfold Rp.zero
      go_wp2_with fail
      refine (quit _ (T5.out.1.alloc T5.out.1.size _)).out.mono ?_
      rintro e wq ⟨rfl, hb⟩
      have HB := Lib.hid hb
      clear hb
      go_wp2
      go_ret
      exact ⟨rfl, HB.out⟩
end Go.Proofs.Ytaebbfdgchamaaa
