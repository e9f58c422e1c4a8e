/- pdu.Read: bytes that tell no reply. -/
import Derived.Test.YtngfaailbkadfaaDoorRdrOk
namespace Go.Proofs.YtngfaailbkadfaaDoor
open Go.RowKit Go.Extern.Stop Go.Stop Go.Extern
set_option maxRecDepth 100000

set_option maxRecDepth 100000 in
set_option maxHeartbeats 4000000 in
theorem read_form (r : Rq) (v vb : Value) (y : UInt8) (l : List UInt8) (w : World) (hv : IntsAt w v r.vs) (hy : BytesAt w vb (y :: l)) (hm : r.may = true) (hl : r.vs.length ≤ 100000) (hlb : (y :: l).length ≤ 100000) (hd : readB r (y :: l) = false) (hz : (y.toNat : Int) = r.f ∨ (y.toNat : Int) = r.f + 128) : Calls Tryd.prog 21 #[r.val v, vb] w (RepNo w (y.toNat : Int) 4) := by
  obtain ⟨f, s, c, us⟩ := r
  unfold Rq.val
  dsimp only at hv hl ⊢
  have HV := Lib.hid hv
  have HY := Lib.hid hy
  have HL := Lib.hid (And.intro hl hlb)
  obtain ⟨av, kv, rfl, _⟩ := id hv
  obtain ⟨wx, hwx⟩ : ∃ wx, wx = (w.alloc (.cells #[.int .i64 f, .int .i64 s, .int .i64 c, .slice av us.length kv] 24)).alloc (.cells #[.int .i64 0, .slice none 0 0] 52) := ⟨_, rfl⟩
  have T0 : Hid (Two w wx f s c (.slice av us.length kv) 0 (.slice none 0 0)) := Lib.hid (by rw [hwx]; exact two_new _ _ _ _ _ _ _)
  have HM := Lib.hid hm
  have HFB := Lib.hid (f_ok hm)
  have HB : Hid ((mayR ⟨f, s, c, us⟩ (parseR ⟨f, s, c, us⟩ (y :: l)) && (ansF ⟨f, s, c, us⟩ (parseR ⟨f, s, c, us⟩ (y :: l)) == (y :: l))) = false) := Lib.hid hd
  have HZ := Lib.hid hz
  clear hd hz
  clear hv hy hl hlb hm
  obtain ⟨b, off, cap, rfl, _⟩ := bytesAt_cons HY.out
  go_enter Tryd.func21, Tryd.ntmps21
  go_wp2_with fail
  rw [← hwx]
  clear hwx
  refine (may_any f s c _ us wx (HV.out.on T0.out.1) HL.out.1).mono ?_
  rintro e w1 ⟨rfl, hb⟩
  have hmm : mayB f s c us = true := HM.out
  rw [hmm]
  clear hmm
  have T1 := Lib.hid (T0.out.on hb)
  clear hb
  have Y1 := Lib.hid (HY.out.on T1.out.1)
  have hc0 : w1.cell? ⟨b, off, none⟩ = some (.int .u8 (y.toNat : Int)) := by
    obtain ⟨b', off', cap', e, hc⟩ := bytesAt_cons Y1.out
    simp only [Value.slice.injEq, Option.some.injEq, Addr.mk.injEq] at e
    obtain ⟨⟨rfl, rfl, _⟩, _, _⟩ := e
    exact hc
  have hlen : ((l.length : Int) + 1 == 0) = false := by simp; omega
  have z0 : (0 : Int) ≤ (y.toNat : Int) := by omega
  have z1 : (y.toNat : Int) ≤ 255 := by have := byte_lt y; omega
  generalize hzz : (y.toNat : Int) = z at *
  clear hzz
  have hf1 : 1 ≤ f := HFB.out.1
  have hf2 : f ≤ 16 := HFB.out.2
  obtain ⟨c0, c1, c2, c3⟩ := cells4 T1.out.2.1
  have hz : Hid (z = f ∨ z = f + 128) := HZ
  have body : f = z ∨ (z != f) = true ∧ f + 128 = z := by
    rcases hz.out with h | h
    · exact .inl h.symm
    · exact .inr ⟨by simp; omega, h.symm⟩
  clear hz
  rcases body with rfl | ⟨hne, rfl⟩
  · go_wp2_with fail
    refine (parser_any ⟨f, s, c, us⟩ _ _ (y :: l) w1 Y1.out HL.out.2).mono ?_
    rintro e w2 ⟨v2, rfl, hv2, hb⟩
    have T2 := Lib.hid (T1.out.on hb)
    have HPL := Lib.hid (parseR_length HM.out (y :: l))
    generalize parseR ⟨f, s, c, us⟩ (y :: l) = q at *
    obtain ⟨code, vs⟩ := q
    unfold Rp.val
    dsimp only at HPL hv2 ⊢
    obtain ⟨a2, k2, rfl⟩ := row_slice hv2
    have HSZ : Hid (w.heap.size + 1 < w1.heap.size) := Lib.hid (lt_heap T1.out.2.2)
    obtain ⟨w3, hw3⟩ : ∃ x, x = w2.alloc (.cells #[.int .i64 code, .slice a2 vs.length k2] 52) := ⟨_, rfl⟩
    have T3 : Hid (Two w w3 f s c (.slice av us.length kv) 0 (.slice none 0 0)) := Lib.hid (by rw [hw3]; exact T2.out.on (below_new _ _))
    have Q3 : Hid (BoxP w3 w2.heap.size code (.slice a2 vs.length k2)) := Lib.hid (by rw [hw3]; exact heap_alloc_new w2 _)
    have O3 : Hid (w3.ownsRow w1.heap.size 3 1 (.slice a2 vs.length k2) vs.length (icells vs)) := Lib.hid (by rw [hw3]; exact ownsRow_off hv2 (Off.of_below (fun _ => False) (below_new w2 _)) (fun _ _ f => f))
    have Y3 : Hid (BytesAt w3 (.slice (some ⟨b, off, none⟩) (l.length + 1) cap) (y :: l)) := Lib.hid (HY.out.on T3.out.1)
    clear hv2 hb c0 c1 c2 c3 hc0
    obtain ⟨c0, c1, c2, c3⟩ := cells4 (T2.out.on (below_new w2 (.cells #[.int .i64 code, .slice a2 vs.length k2] 52))).2.1
    go_wp2_with fail
    rw [← hw3]
    clear hw3 c0 c1 c2 c3
    rcases Bool.eq_false_or_eq_true (mayR ⟨f, s, c, us⟩ ⟨code, vs⟩) with hm | hm
    · have HR := Lib.hid hm
      have HN : Hid ((ansF ⟨f, s, c, us⟩ ⟨code, vs⟩ == (y :: l)) = false) := Lib.hid (by have := HB.out; rwa [hm, Bool.true_and] at this)
      clear hm
      refine (ans_ok ⟨f, s, c, us⟩ ⟨code, vs⟩ _ _ w3 (HV.out.on T3.out.1) (intsAt_own O3.out) HM.out HR.out HL.out.1 (by show vs.length ≤ 100000; have := HPL.out; omega)).mono ?_
      rintro e w4 ⟨x4, rfl, hx4, hb⟩
      generalize ansF ⟨f, s, c, us⟩ ⟨code, vs⟩ = enc at *
      obtain ⟨a4, k4, rfl, _⟩ := bytesAt_own hx4
      have Z4 := Lib.hid (bytesAt_own hx4)
      have T4 := Lib.hid (T3.out.on hb)
      have Q4 := Lib.hid (Q3.out.on hb)
      have O4 := Lib.hid (ownsRow_off O3.out (Off.of_below (fun _ => False) hb) (fun _ _ f => f))
      have Y4 := Lib.hid (Y3.out.on hb)
      clear hx4 hb
      go_wp2_with fail
      refine (bequal_any _ _ _ _ w4 Z4.out Y4.out).mono ?_
      rintro e w5 ⟨rfl, rfl⟩
      rw [HN.out]
      go_wp2_with fail
      refine (pfault_any (f) 4 w4).mono ?_
      rintro e we ⟨⟨xx, rfl, hx⟩, hb⟩
      obtain ⟨bx, rfl⟩ := hx.form
      have HX := Lib.hid hx
      have TE := Lib.hid (T4.out.on hb)
      clear hx hb
      obtain ⟨c0, c1, c2, c3⟩ := cells4 TE.out.2.1
      obtain ⟨p0, p1⟩ := TE.out.2.2.cells
      have g0 : ∀ o, we.frozen? ⟨w.heap.size + 1, o, none⟩ = false := fun o => frozen_of_row _ _ _ _ _ TE.out.2.2
      have g0' := g0 0
      have g1' := g0 1
      clear g0
      have HF : Hid (BoxP (fin2r we (w.heap.size + 1) 0 (.slice none 0 0)) (w.heap.size + 1) 0 (.slice none 0 0) ∧ RepNo w (f) 4 (.returned (.tuple #[Rp.zero, .iface 113 (.pointer (some ⟨bx, 0, none⟩))])) (fin2r we (w.heap.size + 1) 0 (.slice none 0 0))) := Lib.hid ⟨fin2r_box TE.out.2.2 _ _, _, rfl, PErr.off2 HX.out (fin2r_off _ _ _ _) TE.out.2.2, fin2r_below TE.out.1 _ (by omega) _ _⟩
      unfold fin2r at HF
      go_wp2
      generalize (World.setCell (World.setCell we _ _) _ _) = W at HF ⊢
      obtain ⟨d0, d1⟩ := HF.out.1.cells
      refine bodyPost_ret (v := .tuple #[Rp.zero, .iface 113 (.pointer (some ⟨bx, 0, none⟩))]) ?_ rfl HF.out.2
      simp [results, Tryd.results21, go_sem, d0, d1, Rp.zero]
    · have HR : Hid ((Rq.may ⟨f, s, c, us⟩ && mayR ⟨f, s, c, us⟩ ⟨code, vs⟩) = false) := Lib.hid (by rw [hm, Bool.and_false])
      clear hm
      refine (ans_no ⟨f, s, c, us⟩ ⟨code, vs⟩ _ _ w3 (HV.out.on T3.out.1) (intsAt_own O3.out) HR.out HL.out.1 (by show vs.length ≤ 100000; have := HPL.out; omega)).mono ?_
      rintro e w4 ⟨x4, rfl, hx4, hb⟩
      obtain ⟨b4, rfl⟩ := hx4.form
      have T4 := Lib.hid (T3.out.on hb)
      clear hx4 hb
      go_wp2_with fail
      refine (pfault_any (f) 4 w4).mono ?_
      rintro e we ⟨⟨xx, rfl, hx⟩, hb⟩
      obtain ⟨bx, rfl⟩ := hx.form
      have HX := Lib.hid hx
      have TE := Lib.hid (T4.out.on hb)
      clear hx hb
      obtain ⟨c0, c1, c2, c3⟩ := cells4 TE.out.2.1
      obtain ⟨p0, p1⟩ := TE.out.2.2.cells
      have g0 : ∀ o, we.frozen? ⟨w.heap.size + 1, o, none⟩ = false := fun o => frozen_of_row _ _ _ _ _ TE.out.2.2
      have g0' := g0 0
      have g1' := g0 1
      clear g0
      have HF : Hid (BoxP (fin2r we (w.heap.size + 1) 0 (.slice none 0 0)) (w.heap.size + 1) 0 (.slice none 0 0) ∧ RepNo w (f) 4 (.returned (.tuple #[Rp.zero, .iface 113 (.pointer (some ⟨bx, 0, none⟩))])) (fin2r we (w.heap.size + 1) 0 (.slice none 0 0))) := Lib.hid ⟨fin2r_box TE.out.2.2 _ _, _, rfl, PErr.off2 HX.out (fin2r_off _ _ _ _) TE.out.2.2, fin2r_below TE.out.1 _ (by omega) _ _⟩
      unfold fin2r at HF
      go_wp2
      generalize (World.setCell (World.setCell we _ _) _ _) = W at HF ⊢
      obtain ⟨d0, d1⟩ := HF.out.1.cells
      refine bodyPost_ret (v := .tuple #[Rp.zero, .iface 113 (.pointer (some ⟨bx, 0, none⟩))]) ?_ rfl HF.out.2
      simp [results, Tryd.results21, go_sem, d0, d1, Rp.zero]
  · go_wp2_with fail
    refine (parser_any ⟨f, s, c, us⟩ _ _ (y :: l) w1 Y1.out HL.out.2).mono ?_
    rintro e w2 ⟨v2, rfl, hv2, hb⟩
    have T2 := Lib.hid (T1.out.on hb)
    have HPL := Lib.hid (parseR_length HM.out (y :: l))
    generalize parseR ⟨f, s, c, us⟩ (y :: l) = q at *
    obtain ⟨code, vs⟩ := q
    unfold Rp.val
    dsimp only at HPL hv2 ⊢
    obtain ⟨a2, k2, rfl⟩ := row_slice hv2
    have HSZ : Hid (w.heap.size + 1 < w1.heap.size) := Lib.hid (lt_heap T1.out.2.2)
    obtain ⟨w3, hw3⟩ : ∃ x, x = w2.alloc (.cells #[.int .i64 code, .slice a2 vs.length k2] 52) := ⟨_, rfl⟩
    have T3 : Hid (Two w w3 f s c (.slice av us.length kv) 0 (.slice none 0 0)) := Lib.hid (by rw [hw3]; exact T2.out.on (below_new _ _))
    have Q3 : Hid (BoxP w3 w2.heap.size code (.slice a2 vs.length k2)) := Lib.hid (by rw [hw3]; exact heap_alloc_new w2 _)
    have O3 : Hid (w3.ownsRow w1.heap.size 3 1 (.slice a2 vs.length k2) vs.length (icells vs)) := Lib.hid (by rw [hw3]; exact ownsRow_off hv2 (Off.of_below (fun _ => False) (below_new w2 _)) (fun _ _ f => f))
    have Y3 : Hid (BytesAt w3 (.slice (some ⟨b, off, none⟩) (l.length + 1) cap) (y :: l)) := Lib.hid (HY.out.on T3.out.1)
    clear hv2 hb c0 c1 c2 c3 hc0
    obtain ⟨c0, c1, c2, c3⟩ := cells4 (T2.out.on (below_new w2 (.cells #[.int .i64 code, .slice a2 vs.length k2] 52))).2.1
    go_wp2_with fail
    rw [← hw3]
    clear hw3 c0 c1 c2 c3
    rcases Bool.eq_false_or_eq_true (mayR ⟨f, s, c, us⟩ ⟨code, vs⟩) with hm | hm
    · have HR := Lib.hid hm
      have HN : Hid ((ansF ⟨f, s, c, us⟩ ⟨code, vs⟩ == (y :: l)) = false) := Lib.hid (by have := HB.out; rwa [hm, Bool.true_and] at this)
      clear hm
      refine (ans_ok ⟨f, s, c, us⟩ ⟨code, vs⟩ _ _ w3 (HV.out.on T3.out.1) (intsAt_own O3.out) HM.out HR.out HL.out.1 (by show vs.length ≤ 100000; have := HPL.out; omega)).mono ?_
      rintro e w4 ⟨x4, rfl, hx4, hb⟩
      generalize ansF ⟨f, s, c, us⟩ ⟨code, vs⟩ = enc at *
      obtain ⟨a4, k4, rfl, _⟩ := bytesAt_own hx4
      have Z4 := Lib.hid (bytesAt_own hx4)
      have T4 := Lib.hid (T3.out.on hb)
      have Q4 := Lib.hid (Q3.out.on hb)
      have O4 := Lib.hid (ownsRow_off O3.out (Off.of_below (fun _ => False) hb) (fun _ _ f => f))
      have Y4 := Lib.hid (Y3.out.on hb)
      clear hx4 hb
      go_wp2_with fail
      refine (bequal_any _ _ _ _ w4 Z4.out Y4.out).mono ?_
      rintro e w5 ⟨rfl, rfl⟩
      rw [HN.out]
      go_wp2_with fail
      refine (pfault_any (f + 128) 4 w4).mono ?_
      rintro e we ⟨⟨xx, rfl, hx⟩, hb⟩
      obtain ⟨bx, rfl⟩ := hx.form
      have HX := Lib.hid hx
      have TE := Lib.hid (T4.out.on hb)
      clear hx hb
      obtain ⟨c0, c1, c2, c3⟩ := cells4 TE.out.2.1
      obtain ⟨p0, p1⟩ := TE.out.2.2.cells
      have g0 : ∀ o, we.frozen? ⟨w.heap.size + 1, o, none⟩ = false := fun o => frozen_of_row _ _ _ _ _ TE.out.2.2
      have g0' := g0 0
      have g1' := g0 1
      clear g0
      have HF : Hid (BoxP (fin2r we (w.heap.size + 1) 0 (.slice none 0 0)) (w.heap.size + 1) 0 (.slice none 0 0) ∧ RepNo w (f + 128) 4 (.returned (.tuple #[Rp.zero, .iface 113 (.pointer (some ⟨bx, 0, none⟩))])) (fin2r we (w.heap.size + 1) 0 (.slice none 0 0))) := Lib.hid ⟨fin2r_box TE.out.2.2 _ _, _, rfl, PErr.off2 HX.out (fin2r_off _ _ _ _) TE.out.2.2, fin2r_below TE.out.1 _ (by omega) _ _⟩
      unfold fin2r at HF
      go_wp2
      generalize (World.setCell (World.setCell we _ _) _ _) = W at HF ⊢
      obtain ⟨d0, d1⟩ := HF.out.1.cells
      refine bodyPost_ret (v := .tuple #[Rp.zero, .iface 113 (.pointer (some ⟨bx, 0, none⟩))]) ?_ rfl HF.out.2
      simp [results, Tryd.results21, go_sem, d0, d1, Rp.zero]
    · have HR : Hid ((Rq.may ⟨f, s, c, us⟩ && mayR ⟨f, s, c, us⟩ ⟨code, vs⟩) = false) := Lib.hid (by rw [hm, Bool.and_false])
      clear hm
      refine (ans_no ⟨f, s, c, us⟩ ⟨code, vs⟩ _ _ w3 (HV.out.on T3.out.1) (intsAt_own O3.out) HR.out HL.out.1 (by show vs.length ≤ 100000; have := HPL.out; omega)).mono ?_
      rintro e w4 ⟨x4, rfl, hx4, hb⟩
      obtain ⟨b4, rfl⟩ := hx4.form
      have T4 := Lib.hid (T3.out.on hb)
      clear hx4 hb
      go_wp2_with fail
      refine (pfault_any (f + 128) 4 w4).mono ?_
      rintro e we ⟨⟨xx, rfl, hx⟩, hb⟩
      obtain ⟨bx, rfl⟩ := hx.form
      have HX := Lib.hid hx
      have TE := Lib.hid (T4.out.on hb)
      clear hx hb
      obtain ⟨c0, c1, c2, c3⟩ := cells4 TE.out.2.1
      obtain ⟨p0, p1⟩ := TE.out.2.2.cells
      have g0 : ∀ o, we.frozen? ⟨w.heap.size + 1, o, none⟩ = false := fun o => frozen_of_row _ _ _ _ _ TE.out.2.2
      have g0' := g0 0
      have g1' := g0 1
      clear g0
      have HF : Hid (BoxP (fin2r we (w.heap.size + 1) 0 (.slice none 0 0)) (w.heap.size + 1) 0 (.slice none 0 0) ∧ RepNo w (f + 128) 4 (.returned (.tuple #[Rp.zero, .iface 113 (.pointer (some ⟨bx, 0, none⟩))])) (fin2r we (w.heap.size + 1) 0 (.slice none 0 0))) := Lib.hid ⟨fin2r_box TE.out.2.2 _ _, _, rfl, PErr.off2 HX.out (fin2r_off _ _ _ _) TE.out.2.2, fin2r_below TE.out.1 _ (by omega) _ _⟩
      unfold fin2r at HF
      go_wp2
      generalize (World.setCell (World.setCell we _ _) _ _) = W at HF ⊢
      obtain ⟨d0, d1⟩ := HF.out.1.cells
      refine bodyPost_ret (v := .tuple #[Rp.zero, .iface 113 (.pointer (some ⟨bx, 0, none⟩))]) ?_ rfl HF.out.2
      simp [results, Tryd.results21, go_sem, d0, d1, Rp.zero]
end Go.Proofs.YtngfaailbkadfaaDoor
/- yardlaw7.first answers true; Encode, Decode, Answer and Read as one contract each. -/
namespace Go.Proofs.YtngfaailbkadfaaDoor
open Go.RowKit Go.Extern.Stop Go.Stop Go.Extern
set_option maxRecDepth 100000

theorem ints_nil (w : World) : IntsAt w (.slice none 0 0) [] := ⟨none, 0, rfl, fun i hi => by simp at hi⟩
def rOne : Rq := ⟨3, 107, 3, []⟩
def rTwo : Rq := ⟨15, 19, 10, [1, 0, 1, 1, 0, 0, 1, 1, 1, 0]⟩
theorem rOne_may : rOne.may = true := by decide +kernel
theorem rTwo_may : rTwo.may = true := by decide +kernel
theorem rOne_enc : encF rOne = [3, 0, 107, 0, 3] := by decide +kernel
theorem rTwo_enc : encF rTwo = [15, 0, 19, 0, 10, 2, 205, 1] := by decide +kernel
theorem rOne_parse : (parseR rOne [131, 2]).code = 2 ∧ (parseR rOne [131, 2]).vs = [] := by decide +kernel
theorem rOne_read : readB rOne [131, 2] = true := by decide +kernel
theorem lit2 (w : World) (x y : UInt8) : BytesAt (w.alloc (.cells #[.int .u8 (x.toNat : Int), .int .u8 (y.toNat : Int)] 5)) (.slice (some ⟨w.heap.size, 0, none⟩) 2 2) [x, y] := by
  refine ⟨some ⟨w.heap.size, 0, none⟩, 2, rfl, fun i hi => ⟨w.heap.size, 0, rfl, ?_⟩⟩
  match i, hi with
  | 0, _ => simp
  | 1, _ => simp
  | i + 2, hi => exact absurd hi (by simp)
theorem ints_ten (w : World) : IntsAt (w.alloc (.cells #[.int .i64 1, .int .i64 0, .int .i64 1, .int .i64 1, .int .i64 0, .int .i64 0, .int .i64 1, .int .i64 1, .int .i64 1, .int .i64 0] 3)) (.slice (some ⟨w.heap.size, 0, none⟩) 10 10) [1, 0, 1, 1, 0, 0, 1, 1, 1, 0] :=
  intsAt_own (base := w.heap.size) (l := [1, 0, 1, 1, 0, 0, 1, 1, 1, 0]) (World.ownsRow_lit w #[.int .i64 1, .int .i64 0, .int .i64 1, .int .i64 1, .int .i64 0, .int .i64 0, .int .i64 1, .int .i64 1, .int .i64 1, .int .i64 0] 10 (Nat.le_refl _) (by unfold maxLen; omega) (by simp))

set_option maxRecDepth 100000 in
set_option maxHeartbeats 4000000 in
theorem first_any (w : World) : Calls Tryd.prog 5 #[] w fun e w' => e = .returned (.bool true) ∧ Below w.heap.size w w' := by
  obtain ⟨wx, hwx⟩ : ∃ wx, wx = w.alloc (.cells #[.int .i64 3, .int .i64 107, .int .i64 3, .slice none 0 0] 24) := ⟨_, rfl⟩
  have X0 : Hid (Below w.heap.size w wx) := Lib.hid (by rw [hwx]; exact below_new w _)
  have B0 : Hid (BoxR wx w.heap.size 3 107 3 (.slice none 0 0)) := Lib.hid (by rw [hwx]; exact heap_alloc_new w _)
  go_enter Tryd.func5, Tryd.ntmps5
  go_wp2_with fail
  rw [← hwx]
  clear hwx
  refine (enc_ok rOne (.slice none 0 0) wx (ints_nil wx) rOne_may (by simp [rOne])).mono ?_
  rintro e w1 ⟨x1, rfl, hx, hb⟩
  rw [rOne_enc] at hx
  obtain ⟨a1, k1, rfl, _⟩ := bytesAt_own hx
  have Z1 := Lib.hid (bytesAt_own hx)
  have X1 := Lib.hid hb
  have B1 := Lib.hid (B0.out.on hb)
  clear hx hb
  go_wp2_with fail
  obtain ⟨w2, hw2⟩ : ∃ x, x = w1.alloc (.cells #[.int .i64 1, .int .i64 0, .int .i64 1, .int .i64 1, .int .i64 0, .int .i64 0, .int .i64 1, .int .i64 1, .int .i64 1, .int .i64 0] 3) := ⟨_, rfl⟩
  have I2 : Hid (IntsAt w2 (.slice (some ⟨w1.heap.size, 0, none⟩) 10 10) [1, 0, 1, 1, 0, 0, 1, 1, 1, 0]) := Lib.hid (by rw [hw2]; exact ints_ten w1)
  have X2 : Hid (Below wx.heap.size wx w2) := Lib.hid (by rw [hw2]; exact X1.out.trans ((below_new w1 _).mono X1.out.size))
  have B2 : Hid (BoxR w2 w.heap.size 3 107 3 (.slice none 0 0)) := Lib.hid (by rw [hw2]; exact B1.out.on (below_new _ _))
  have Z2 : Hid (BytesAt w2 (.slice a1 5 k1) [3, 0, 107, 0, 3]) := Lib.hid (by rw [hw2]; exact Z1.out.on (below_new _ _))
  rw [← hw2]
  clear hw2
  refine (enc_ok rTwo _ w2 I2.out rTwo_may (by simp [rTwo])).mono ?_
  rintro e w3 ⟨x3, rfl, hx, hb⟩
  rw [rTwo_enc] at hx
  obtain ⟨a3, k3, rfl, _⟩ := bytesAt_own hx
  have Z3 := Lib.hid (bytesAt_own hx)
  have X3 := Lib.hid (X2.out.trans (hb.mono X2.out.size))
  have B3 := Lib.hid (B2.out.on hb)
  have Y3 := Lib.hid (Z2.out.on hb)
  clear hx hb
  obtain ⟨c0, c1, c2, c3⟩ := cells4 B3.out
  go_wp2_with fail
  obtain ⟨w4, hw4⟩ : ∃ x, x = w3.alloc (.cells #[.int .u8 131, .int .u8 2] 5) := ⟨_, rfl⟩
  have I4 : Hid (BytesAt w4 (.slice (some ⟨w3.heap.size, 0, none⟩) 2 2) [131, 2]) := Lib.hid (by rw [hw4]; exact lit2 w3 131 2)
  have X4 : Hid (Below wx.heap.size wx w4) := Lib.hid (by rw [hw4]; exact X3.out.trans ((below_new w3 _).mono X3.out.size))
  have Z4 : Hid (BytesAt w4 (.slice a3 8 k3) [15, 0, 19, 0, 10, 2, 205, 1]) := Lib.hid (by rw [hw4]; exact Z3.out.on (below_new _ _))
  have Y4 : Hid (BytesAt w4 (.slice a1 5 k1) [3, 0, 107, 0, 3]) := Lib.hid (by rw [hw4]; exact Y3.out.on (below_new _ _))
  rw [← hw4]
  clear hw4 c0 c1 c2 c3
  refine (read_ok rOne _ _ 131 [2] w4 (ints_nil w4) I4.out rOne_may (by simp [rOne]) (by simp) rOne_read (.inr (by decide +kernel))).mono ?_
  rintro e w5 ⟨x5, rfl, hx, hb⟩
  obtain ⟨p1, p2⟩ := rOne_parse
  generalize parseR rOne [131, 2] = q at *
  obtain ⟨code, vs⟩ := q
  dsimp only at p1 p2
  subst p1 p2
  obtain ⟨a5, k5, rfl⟩ := row_slice hx
  have X5 := Lib.hid (X0.out.trans ((X4.out.trans (hb.mono X4.out.size)).mono X0.out.size))
  have q1 := conv_bytes (w5.alloc (.cells #[.int .i64 2, .slice a5 0 k5] 52)) _ _ ((Y4.out.on hb).on (below_new _ _))
  have q2 := conv_bytes (w5.alloc (.cells #[.int .i64 2, .slice a5 0 k5] 52)) _ _ ((Z4.out.on hb).on (below_new _ _))
  clear hx hb
  unfold Rp.val
  dsimp only
  go_wp2
  go_ret
  exact ⟨rfl, X5.out.alloc (by have := X5.out.size; omega) _⟩
end Go.Proofs.YtngfaailbkadfaaDoor
