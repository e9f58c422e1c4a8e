/- pdu.Answer: the bytes of a reply, or the error. -/
import Derived.Test.YtngfaailbkadfaaDoorRep
namespace Go.Proofs.YtngfaailbkadfaaDoor
open Go.RowKit Go.Extern.Stop Go.Stop Go.Extern
set_option maxRecDepth 100000

theorem Two.keeps {w W W' : World} {f s c : Int} {v : Value} {code : Int} {pv : Value} (h : Two w W f s c v code pv) (hk : Keeps W W') (hb : Below w.heap.size w W') : Two w W' f s c v code pv := ⟨hb, h.2.1.keeps hk, h.2.2.keeps hk⟩

set_option maxRecDepth 100000 in
set_option maxHeartbeats 4000000 in
theorem ans_ok (r : Rq) (p : Rp) (v pv : Value) (w : World) (hv : IntsAt w v r.vs) (hp : IntsAt w pv p.vs) (hm : r.may = true) (hr : mayR r p = true) (hl : r.vs.length ≤ 100000) (hlp : p.vs.length ≤ 100000) : Calls Tryd.prog 18 #[r.val v, p.val pv] w (BytesOk w (ansF r p)) := by
  obtain ⟨f, s, c, us⟩ := r
  obtain ⟨code, vs⟩ := p
  unfold Rq.val Rp.val
  dsimp only at hv hp hl hlp ⊢
  have HV := Lib.hid hv
  have HP := Lib.hid hp
  have HL := Lib.hid (And.intro hl hlp)
  obtain ⟨av, kv, rfl, _⟩ := id hv
  obtain ⟨ap, kp, rfl, _⟩ := id hp
  obtain ⟨wx, hwx⟩ : ∃ wx, wx = (w.alloc (.cells #[.int .i64 f, .int .i64 s, .int .i64 c, .slice av us.length kv] 24)).alloc (.cells #[.int .i64 code, .slice ap vs.length kp] 52) := ⟨_, rfl⟩
  have T0 : Hid (Two w wx f s c (.slice av us.length kv) code (.slice ap vs.length kp)) := Lib.hid (by rw [hwx]; exact two_new _ _ _ _ _ _ _)
  have HM := Lib.hid hm
  have HR := Lib.hid hr
  have HF := Lib.hid (f_ok hm)
  have HK := Lib.hid (rkind_of hm hr)
  have HLA := Lib.hid (ansF_length hm hr)
  clear hv hp hl hlp hm hr
  go_enter Tryd.func18, Tryd.ntmps18
  go_wp2_with fail
  rw [← hwx]
  clear hwx
  refine (may_any f s c _ us wx (HV.out.on T0.out.1) HL.out.1).mono ?_
  rintro e w1 ⟨rfl, hb⟩
  have hmm : mayB f s c us = true := HM.out
  rw [hmm]
  clear hmm
  have T1 := Lib.hid (T0.out.on hb)
  clear hb
  obtain ⟨c0, c1, c2, c3⟩ := cells4 T1.out.2.1
  obtain ⟨p0, p1⟩ := T1.out.2.2.cells
  go_wp2_with fail
  refine (mayr_any f s c _ us code _ vs w1 (HP.out.on T1.out.1) HL.out.2).mono ?_
  rintro e w2 ⟨rfl, hb⟩
  rw [HR.out]
  have T2 := Lib.hid (T1.out.on hb)
  clear hb c0 c1 c2 c3 p0 p1
  obtain ⟨c0, c1, c2, c3⟩ := cells4 T2.out.2.1
  obtain ⟨p0, p1⟩ := T2.out.2.2.cells
  go_wp2_with fail
  refine (new_writer w2).mono ?_
  rintro e w3 ⟨rfl, rfl⟩
  have S3 := Lib.hid (St.new w2)
  have T3 := Lib.hid (T2.out.on (below_new w2 (.cells #[.slice none 0 0] 95)))
  obtain ⟨w3, hw3⟩ : ∃ x, x = w2.alloc (.cells #[.slice none 0 0] 95) := ⟨_, rfl⟩
  rw [← hw3] at S3 T3 ⊢
  clear hw3 c0 c1 c2 c3 p0 p1
  obtain ⟨c0, c1, c2, c3⟩ := cells4 T3.out.2.1
  obtain ⟨p0, p1⟩ := T3.out.2.2.cells
  have finish : ∀ (l : List UInt8) (w5 : World), St w2 w2.heap.size l w5 → ansF ⟨f, s, c, us⟩ ⟨code, vs⟩ = l → Hid (Calls Tryd.prog 28 #[.pointer (some ⟨w2.heap.size, 0, none⟩)] w5 (CopyIs w (ansF ⟨f, s, c, us⟩ ⟨code, vs⟩))) := fun l w5 h he => Lib.hid (by rw [he]; exact (st_out w2 w5 _ l h (by rw [← he]; have := HLA.out; omega)).mono fun e w6 h6 => h6.up (T2.out.1.trans (h.below.mono T2.out.1.size)))
  by_cases h0 : code = 0
  · subst h0
    have hz : 0 ≤ f ∧ f < 256 := by have : 1 ≤ f ∧ f ≤ 16 := HF.out; omega
    have HZ := Lib.hid hz
    clear hz
    go_wp2_with fail
    refine (format_any f w3).mono ?_
    rintro e w4 ⟨rfl, hb⟩
    have S4 := Lib.hid (S3.out.on hb)
    have T4 := Lib.hid (T3.out.on hb)
    clear hb c0 c1 c2 c3 p0 p1
    obtain ⟨c0, c1, c2, c3⟩ := cells4 T4.out.2.1
    obtain ⟨p0, p1⟩ := T4.out.2.2.cells
    unfold fmtV
    generalize fMost f = m
    generalize fTop f = t
    cases hrd : fReads f with
    | true =>
      have HE : Hid (ansF ⟨f, s, c, us⟩ ⟨0, vs⟩ = be 1 f ++ putF f vs) := Lib.hid (by simp [ansF, hrd])
      have HD : Hid (ValsOk f vs ∧ (dataF f vs).length ≤ 250) := Lib.hid (by
        cases HK.out with
        | exc hc hv => dsimp only at hc; omega
        | read hc hr hl hv hd => exact ⟨hv, hd⟩
        | done hc hr hv => dsimp only at hr; rw [hrd] at hr; cases hr)
      clear hrd
      go_wp2
      rw [fld2]
      go_wp2_with fail
      refine (st_b w2 w4 _ _ 1 f S4.out (by simp) (u1 HZ.out.1 HZ.out.2)).mono ?_
      rintro e w5 ⟨rfl, hs, hk⟩
      have S5 := Lib.hid hs
      have T5 := Lib.hid (T4.out.keeps hk (T2.out.1.trans (hs.below.mono T2.out.1.size)))
      clear hs hk c0 c1 c2 c3 p0 p1
      obtain ⟨c0, c1, c2, c3⟩ := cells4 T5.out.2.1
      obtain ⟨p0, p1⟩ := T5.out.2.2.cells
      go_wp2_with fail
      refine (putv_any w2 w5 _ _ f _ vs S5.out (HP.out.on T5.out.1) HD.out.1 HL.out.2 (by have := HD.out.2; omega) (by rw [List.nil_append, be_length]; omega)).mono ?_
      rintro e w6 ⟨rfl, hs, hk⟩
      have S6 := Lib.hid hs
      clear hs hk c0 c1 c2 c3 p0 p1
      go_wp2_with fail
      refine (finish _ w6 S6.out (by simpa using HE.out)).out.mono ?_
      rintro e w8 ⟨x, rfl, hx, hb⟩
      have H6 : Hid (BytesOk w (ansF ⟨f, s, c, us⟩ ⟨0, vs⟩) (.returned (.tuple #[x, .nilIface])) w8) := Lib.hid ⟨x, rfl, hx, hb⟩
      clear hx hb
      go_wp2
      go_ret2
      exact H6.out
    | false =>
      have HE : Hid (ansF ⟨f, s, c, us⟩ ⟨0, vs⟩ = headF ⟨f, s, c, us⟩) := Lib.hid (by simp [ansF, hrd])
      have HHL := Lib.hid (headF_length ⟨f, s, c, us⟩)
      clear hrd
      go_wp2
      rw [fld2]
      go_wp2_with fail
      refine (puth_any w2 w4 _ [] ⟨f, s, c, us⟩ _ S4.out (HV.out.on T2.out.1) HM.out (by simp)).mono ?_
      rintro e w6 ⟨rfl, hs, hk⟩
      have S6 := Lib.hid hs
      clear hs hk c0 c1 c2 c3 p0 p1
      go_wp2_with fail
      refine (finish _ w6 S6.out (by simpa using HE.out)).out.mono ?_
      rintro e w8 ⟨x, rfl, hx, hb⟩
      have H6 : Hid (BytesOk w (ansF ⟨f, s, c, us⟩ ⟨0, vs⟩) (.returned (.tuple #[x, .nilIface])) w8) := Lib.hid ⟨x, rfl, hx, hb⟩
      clear hx hb
      go_wp2
      go_ret2
      exact H6.out
  · have n0 : (code != 0) = true := by simpa using h0
    have HE : Hid (ansF ⟨f, s, c, us⟩ ⟨code, vs⟩ = be 1 (f + 128) ++ be 1 code) := Lib.hid (by simp [ansF, h0])
    have hz : 1 ≤ f ∧ f ≤ 16 := HF.out
    have HZ := Lib.hid hz
    obtain ⟨f1, f2⟩ := hz
    have HC : Hid (1 ≤ code ∧ code ≤ 255) := Lib.hid (by
      cases HK.out with
      | exc hc hv => exact hc
      | read hc hr hl hv hd => exact absurd hc h0
      | done hc hr hv => exact absurd hc h0)
    clear h0
    go_wp2_with fail
    refine (st_b w2 w3 _ _ 1 (f + 128) S3.out (by simp) (u1 (by have := HZ.out; omega) (by have := HZ.out; omega))).mono ?_
    rintro e w5 ⟨rfl, hs, hk⟩
    have S5 := Lib.hid hs
    have T5 := Lib.hid (T3.out.keeps hk (T2.out.1.trans (hs.below.mono T2.out.1.size)))
    clear hs hk c0 c1 c2 c3 p0 p1
    obtain ⟨c0, c1, c2, c3⟩ := cells4 T5.out.2.1
    obtain ⟨p0, p1⟩ := T5.out.2.2.cells
    go_wp2_with fail
    refine (st_b w2 w5 _ _ 1 code S5.out (by rw [List.nil_append, be_length]; omega) (u1 (by have := HC.out; omega) (by have := HC.out; omega))).mono ?_
    rintro e w6 ⟨rfl, hs, hk⟩
    have S6 := Lib.hid hs
    clear hs hk c0 c1 c2 c3 p0 p1
    go_wp2_with fail
    refine (finish _ w6 S6.out (by simpa using HE.out)).out.mono ?_
    rintro e w8 ⟨x, rfl, hx, hb⟩
    have H6 : Hid (BytesOk w (ansF ⟨f, s, c, us⟩ ⟨code, vs⟩) (.returned (.tuple #[x, .nilIface])) w8) := Lib.hid ⟨x, rfl, hx, hb⟩
    clear hx hb
    go_wp2
    go_ret2
    exact H6.out

set_option maxRecDepth 100000 in
set_option maxHeartbeats 4000000 in
theorem ans_no (r : Rq) (p : Rp) (v pv : Value) (w : World) (hv : IntsAt w v r.vs) (hp : IntsAt w pv p.vs) (hm : (r.may && mayR r p) = false) (hl : r.vs.length ≤ 100000) (hlp : p.vs.length ≤ 100000) : Calls Tryd.prog 18 #[r.val v, p.val pv] w (BytesNo w r.f 1) := by
  obtain ⟨f, s, c, us⟩ := r
  obtain ⟨code, vs⟩ := p
  unfold Rq.val Rp.val
  dsimp only at hv hp hl hlp ⊢
  have HV := Lib.hid hv
  have HP := Lib.hid hp
  have HL := Lib.hid (And.intro hl hlp)
  obtain ⟨av, kv, rfl, _⟩ := id hv
  obtain ⟨ap, kp, rfl, _⟩ := id hp
  obtain ⟨wx, hwx⟩ : ∃ wx, wx = (w.alloc (.cells #[.int .i64 f, .int .i64 s, .int .i64 c, .slice av us.length kv] 24)).alloc (.cells #[.int .i64 code, .slice ap vs.length kp] 52) := ⟨_, rfl⟩
  have T0 : Hid (Two w wx f s c (.slice av us.length kv) code (.slice ap vs.length kp)) := Lib.hid (by rw [hwx]; exact two_new _ _ _ _ _ _ _)
  rcases Bool.eq_false_or_eq_true (Rq.may ⟨f, s, c, us⟩) with hq | hq
  · have HM := Lib.hid hq
    have HR : Hid (mayR ⟨f, s, c, us⟩ ⟨code, vs⟩ = false) := Lib.hid (by rwa [hq, Bool.true_and] at hm)
    clear hv hp hl hlp hm hq
    go_enter Tryd.func18, Tryd.ntmps18
    go_wp2_with fail
    rw [← hwx]
    clear hwx
    refine (may_any f s c _ us wx (HV.out.on T0.out.1) HL.out.1).mono ?_
    rintro e w1 ⟨rfl, hb⟩
    have hmm : mayB f s c us = true := HM.out
    rw [hmm]
    clear hmm
    have T1 := Lib.hid (T0.out.on hb)
    clear hb
    obtain ⟨c0, c1, c2, c3⟩ := cells4 T1.out.2.1
    obtain ⟨p0, p1⟩ := T1.out.2.2.cells
    go_wp2_with fail
    refine (mayr_any f s c _ us code _ vs w1 (HP.out.on T1.out.1) HL.out.2).mono ?_
    rintro e w2 ⟨rfl, hb⟩
    rw [HR.out]
    have T2 := Lib.hid (T1.out.on hb)
    clear hb c0 c1 c2 c3 p0 p1
    obtain ⟨c0, c1, c2, c3⟩ := cells4 T2.out.2.1
    go_wp2_with fail
    refine (pfault_any f 1 w2).mono ?_
    rintro e w4 ⟨⟨x, rfl, hx⟩, hb⟩
    obtain ⟨bx, rfl⟩ := hx.form
    have H3 : Hid (BytesNo w f 1 (.returned (.tuple #[.slice none 0 0, .iface 113 (.pointer (some ⟨bx, 0, none⟩))])) w4) := Lib.hid ⟨_, rfl, hx, T2.out.1.trans (hb.mono T2.out.1.size)⟩
    clear hx hb c0 c1 c2 c3
    go_wp2
    go_ret2
    exact H3.out
  · have HM := Lib.hid hq
    clear hv hp hl hlp hm hq
    go_enter Tryd.func18, Tryd.ntmps18
    go_wp2_with fail
    rw [← hwx]
    clear hwx
    refine (may_any f s c _ us wx (HV.out.on T0.out.1) HL.out.1).mono ?_
    rintro e w1 ⟨rfl, hb⟩
    have hmm : mayB f s c us = false := HM.out
    rw [hmm]
    clear hmm
    have T1 := Lib.hid (T0.out.on hb)
    clear hb
    obtain ⟨c0, c1, c2, c3⟩ := cells4 T1.out.2.1
    obtain ⟨p0, p1⟩ := T1.out.2.2.cells
    clear c0 c1 c2 c3 p0 p1
    obtain ⟨c0, c1, c2, c3⟩ := cells4 T1.out.2.1
    go_wp2_with fail
    refine (pfault_any f 1 w1).mono ?_
    rintro e w4 ⟨⟨x, rfl, hx⟩, hb⟩
    obtain ⟨bx, rfl⟩ := hx.form
    have H3 : Hid (BytesNo w f 1 (.returned (.tuple #[.slice none 0 0, .iface 113 (.pointer (some ⟨bx, 0, none⟩))])) w4) := Lib.hid ⟨_, rfl, hx, T1.out.1.trans (hb.mono T1.out.1.size)⟩
    clear hx hb c0 c1 c2 c3
    go_wp2
    go_ret2
    exact H3.out
end Go.Proofs.YtngfaailbkadfaaDoor
