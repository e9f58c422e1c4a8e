/- pdu.Read: the reply that bytes tell, or the error. -/
import Derived.Test.YtngfaailbkadfaaDoorAns
namespace Go.Proofs.YtngfaailbkadfaaDoor
open Go.RowKit Go.Extern.Stop Go.Stop Go.Extern
set_option maxRecDepth 100000

def RepOk (w : World) (p : Rp) (e : Ending) (w' : World) : Prop := ∃ v, e = .returned (.tuple #[p.val v, .nilIface]) ∧ w'.ownsRow w.heap.size 3 1 v p.vs.length (icells p.vs) ∧ Below w.heap.size w w'
def Rp.zero : Value := .agg #[.int .i64 0, .slice none 0 0]
def RepNo (w : World) (x c : Int) (e : Ending) (w' : World) : Prop := ∃ v, e = .returned (.tuple #[Rp.zero, v]) ∧ PErr w' x c v ∧ Below w.heap.size w w'
/-- Do bytes tell the reply that they seem to? -/
def readB (r : Rq) (b : List UInt8) : Bool := mayR r (parseR r b) && (ansF r (parseR r b) == b)
theorem readB_iff {r : Rq} {b : List UInt8} : readB r b = true ↔ mayR r (parseR r b) = true ∧ ansF r (parseR r b) = b := by simp [readB]
theorem readB_first {r : Rq} {b : List UInt8} (hm : r.may = true) (h : readB r b = true) : ∃ y l, b = y :: l ∧ ((y.toNat : Int) = r.f ∨ (y.toNat : Int) = r.f + 128) := by
  obtain ⟨h1, h2⟩ := readB_iff.1 h
  have h3 := (ansF_length hm h1).1
  have h4 := ans_first hm h1
  rw [h2] at h3 h4
  match b, h3, h4 with
  | y :: l, _, h4 =>
    refine ⟨y, l, rfl, ?_⟩
    rw [rdN_first] at h4
    have h5 := congrArg Prod.fst h4
    dsimp only at h5
    split at h5
    · exact .inl h5
    · exact .inr h5
theorem parseR_length {r : Rq} (hm : r.may = true) (b : List UInt8) : (parseR r b).vs.length ≤ 65535 := by
  have h1 := (may_iff.1 hm).1
  have h2 : fMost r.f ≤ 2000 := by unfold fMost; repeat' split; all_goals omega
  unfold parseR
  split
  · split
    · exact takeF_length _ _ _ _ (by omega)
    · simp
  · simp
theorem PErr.off2 {w w' : World} {x c : Int} {v : Value} {k : Nat} (h : PErr w x c v) (ho : Off (fun j => j = k) w w') {cc : Int} {V : Value} (hb : BoxP w k cc V) : PErr w' x c v := by
  obtain ⟨b, h1, h2⟩ := h
  refine ⟨b, h1, (ho.block b (lt_heap h2) (fun e => ?_)).trans h2⟩
  unfold BoxP at hb
  rw [← e, h2] at hb
  simp at hb

set_option maxRecDepth 100000 in
set_option maxHeartbeats 4000000 in
theorem read_range (r : Rq) (v vb : Value) (b : List UInt8) (w : World) (hv : IntsAt w v r.vs) (hy : BytesAt w vb b) (hm : r.may = false) (hl : r.vs.length ≤ 100000) (hlb : b.length ≤ 100000) : Calls Tryd.prog 21 #[r.val v, vb] w (RepNo w r.f 1) := by
  obtain ⟨f, s, c, us⟩ := r
  unfold Rq.val
  dsimp only at hv hl ⊢
  have HV := Lib.hid hv
  have HY := Lib.hid hy
  have HL := Lib.hid (And.intro hl hlb)
  obtain ⟨av, kv, rfl, _⟩ := id hv
  obtain ⟨wx, hwx⟩ : ∃ wx, wx = (w.alloc (.cells #[.int .i64 f, .int .i64 s, .int .i64 c, .slice av us.length kv] 24)).alloc (.cells #[.int .i64 0, .slice none 0 0] 52) := ⟨_, rfl⟩
  have T0 : Hid (Two w wx f s c (.slice av us.length kv) 0 (.slice none 0 0)) := Lib.hid (by rw [hwx]; exact two_new _ _ _ _ _ _ _)
  have HM := Lib.hid hm
  clear hv hy hl hlb hm
  go_enter Tryd.func21, Tryd.ntmps21
  go_wp2_with fail
  rw [← hwx]
  clear hwx
  refine (may_any f s c _ us wx (HV.out.on T0.out.1) HL.out.1).mono ?_
  rintro e w1 ⟨rfl, hb⟩
  have hmm : mayB f s c us = false := HM.out
  rw [hmm]
  clear hmm
  have T1 := Lib.hid (T0.out.on hb)
  clear hb
  obtain ⟨c0, c1, c2, c3⟩ := cells4 T1.out.2.1
  go_wp2_with fail
  refine (pfault_any (f) 1 w1).mono ?_
  rintro e we ⟨⟨xx, rfl, hx⟩, hb⟩
  obtain ⟨bx, rfl⟩ := hx.form
  have HX := Lib.hid hx
  have TE := Lib.hid (T1.out.on hb)
  clear hx hb c0 c1 c2 c3
  obtain ⟨c0, c1, c2, c3⟩ := cells4 TE.out.2.1
  obtain ⟨p0, p1⟩ := TE.out.2.2.cells
  have g0 : ∀ o, we.frozen? ⟨w.heap.size + 1, o, none⟩ = false := fun o => frozen_of_row _ _ _ _ _ TE.out.2.2
  have g0' := g0 0
  have g1' := g0 1
  clear g0
  have HF : Hid (BoxP (fin2r we (w.heap.size + 1) 0 (.slice none 0 0)) (w.heap.size + 1) 0 (.slice none 0 0) ∧ RepNo w (f) 1 (.returned (.tuple #[Rp.zero, .iface 113 (.pointer (some ⟨bx, 0, none⟩))])) (fin2r we (w.heap.size + 1) 0 (.slice none 0 0))) := Lib.hid ⟨fin2r_box TE.out.2.2 _ _, _, rfl, PErr.off2 HX.out (fin2r_off _ _ _ _) TE.out.2.2, fin2r_below TE.out.1 _ (by omega) _ _⟩
  unfold fin2r at HF
  go_wp2
  generalize (World.setCell (World.setCell we _ _) _ _) = W at HF ⊢
  obtain ⟨d0, d1⟩ := HF.out.1.cells
  refine bodyPost_ret (v := .tuple #[Rp.zero, .iface 113 (.pointer (some ⟨bx, 0, none⟩))]) ?_ rfl HF.out.2
  simp [results, Tryd.results21, go_sem, d0, d1, Rp.zero]

set_option maxRecDepth 100000 in
set_option maxHeartbeats 4000000 in
theorem read_nil (r : Rq) (v vb : Value) (w : World) (hv : IntsAt w v r.vs) (hy : BytesAt w vb []) (hm : r.may = true) (hl : r.vs.length ≤ 100000) : Calls Tryd.prog 21 #[r.val v, vb] w (RepNo w 0 2) := by
  have hlb : (0 : Nat) ≤ 100000 := by omega
  obtain ⟨f, s, c, us⟩ := r
  unfold Rq.val
  dsimp only at hv hl ⊢
  have HV := Lib.hid hv
  have HY := Lib.hid hy
  have HL := Lib.hid (And.intro hl hlb)
  obtain ⟨av, kv, rfl, _⟩ := id hv
  obtain ⟨wx, hwx⟩ : ∃ wx, wx = (w.alloc (.cells #[.int .i64 f, .int .i64 s, .int .i64 c, .slice av us.length kv] 24)).alloc (.cells #[.int .i64 0, .slice none 0 0] 52) := ⟨_, rfl⟩
  have T0 : Hid (Two w wx f s c (.slice av us.length kv) 0 (.slice none 0 0)) := Lib.hid (by rw [hwx]; exact two_new _ _ _ _ _ _ _)
  have HM := Lib.hid hm
  obtain ⟨ay, ky, rfl, _⟩ := id hy
  clear hv hy hl hlb hm
  go_enter Tryd.func21, Tryd.ntmps21
  go_wp2_with fail
  rw [← hwx]
  clear hwx
  refine (may_any f s c _ us wx (HV.out.on T0.out.1) HL.out.1).mono ?_
  rintro e w1 ⟨rfl, hb⟩
  have hmm : mayB f s c us = true := HM.out
  rw [hmm]
  clear hmm
  have T1 := Lib.hid (T0.out.on hb)
  clear hb
  go_wp2_with fail
  refine (pfault_any (0) 2 w1).mono ?_
  rintro e we ⟨⟨xx, rfl, hx⟩, hb⟩
  obtain ⟨bx, rfl⟩ := hx.form
  have HX := Lib.hid hx
  have TE := Lib.hid (T1.out.on hb)
  clear hx hb
  obtain ⟨c0, c1, c2, c3⟩ := cells4 TE.out.2.1
  obtain ⟨p0, p1⟩ := TE.out.2.2.cells
  have g0 : ∀ o, we.frozen? ⟨w.heap.size + 1, o, none⟩ = false := fun o => frozen_of_row _ _ _ _ _ TE.out.2.2
  have g0' := g0 0
  have g1' := g0 1
  clear g0
  have HF : Hid (BoxP (fin2r we (w.heap.size + 1) 0 (.slice none 0 0)) (w.heap.size + 1) 0 (.slice none 0 0) ∧ RepNo w (0) 2 (.returned (.tuple #[Rp.zero, .iface 113 (.pointer (some ⟨bx, 0, none⟩))])) (fin2r we (w.heap.size + 1) 0 (.slice none 0 0))) := Lib.hid ⟨fin2r_box TE.out.2.2 _ _, _, rfl, PErr.off2 HX.out (fin2r_off _ _ _ _) TE.out.2.2, fin2r_below TE.out.1 _ (by omega) _ _⟩
  unfold fin2r at HF
  go_wp2
  generalize (World.setCell (World.setCell we _ _) _ _) = W at HF ⊢
  obtain ⟨d0, d1⟩ := HF.out.1.cells
  refine bodyPost_ret (v := .tuple #[Rp.zero, .iface 113 (.pointer (some ⟨bx, 0, none⟩))]) ?_ rfl HF.out.2
  simp [results, Tryd.results21, go_sem, d0, d1, Rp.zero]

set_option maxRecDepth 100000 in
set_option maxHeartbeats 4000000 in
theorem read_kind (r : Rq) (v vb : Value) (y : UInt8) (l : List UInt8) (w : World) (hv : IntsAt w v r.vs) (hy : BytesAt w vb (y :: l)) (hm : r.may = true) (hl : r.vs.length ≤ 100000) (hlb : (y :: l).length ≤ 100000) (h1 : (y.toNat : Int) ≠ r.f) (h2 : (y.toNat : Int) ≠ r.f + 128) : Calls Tryd.prog 21 #[r.val v, vb] w (RepNo w (y.toNat : Int) 6) := by
  obtain ⟨f, s, c, us⟩ := r
  unfold Rq.val
  dsimp only at hv hl ⊢
  have HV := Lib.hid hv
  have HY := Lib.hid hy
  have HL := Lib.hid (And.intro hl hlb)
  obtain ⟨av, kv, rfl, _⟩ := id hv
  obtain ⟨wx, hwx⟩ : ∃ wx, wx = (w.alloc (.cells #[.int .i64 f, .int .i64 s, .int .i64 c, .slice av us.length kv] 24)).alloc (.cells #[.int .i64 0, .slice none 0 0] 52) := ⟨_, rfl⟩
  have T0 : Hid (Two w wx f s c (.slice av us.length kv) 0 (.slice none 0 0)) := Lib.hid (by rw [hwx]; exact two_new _ _ _ _ _ _ _)
  have HM := Lib.hid hm
  have HFB := Lib.hid (f_ok hm)
  have n1 : ((y.toNat : Int) != f) = true := by simpa using h1
  have n2 : ((y.toNat : Int) != f + 128) = true := by simpa using h2
  clear h1 h2
  clear hv hy hl hlb hm
  obtain ⟨b, off, cap, rfl, _⟩ := bytesAt_cons HY.out
  go_enter Tryd.func21, Tryd.ntmps21
  go_wp2_with fail
  rw [← hwx]
  clear hwx
  refine (may_any f s c _ us wx (HV.out.on T0.out.1) HL.out.1).mono ?_
  rintro e w1 ⟨rfl, hb⟩
  have hmm : mayB f s c us = true := HM.out
  rw [hmm]
  clear hmm
  have T1 := Lib.hid (T0.out.on hb)
  clear hb
  have Y1 := Lib.hid (HY.out.on T1.out.1)
  have hc0 : w1.cell? ⟨b, off, none⟩ = some (.int .u8 (y.toNat : Int)) := by
    obtain ⟨b', off', cap', e, hc⟩ := bytesAt_cons Y1.out
    simp only [Value.slice.injEq, Option.some.injEq, Addr.mk.injEq] at e
    obtain ⟨⟨rfl, rfl, _⟩, _, _⟩ := e
    exact hc
  have hlen : ((l.length : Int) + 1 == 0) = false := by simp; omega
  have z0 : (0 : Int) ≤ (y.toNat : Int) := by omega
  have z1 : (y.toNat : Int) ≤ 255 := by have := byte_lt y; omega
  generalize hzz : (y.toNat : Int) = z at *
  clear hzz
  have hf1 : 1 ≤ f := HFB.out.1
  have hf2 : f ≤ 16 := HFB.out.2
  obtain ⟨c0, c1, c2, c3⟩ := cells4 T1.out.2.1
  go_wp2_with fail
  refine (pfault_any (z) 6 w1).mono ?_
  rintro e we ⟨⟨xx, rfl, hx⟩, hb⟩
  obtain ⟨bx, rfl⟩ := hx.form
  have HX := Lib.hid hx
  have TE := Lib.hid (T1.out.on hb)
  clear hx hb c0 c1 c2 c3 hc0
  obtain ⟨c0, c1, c2, c3⟩ := cells4 TE.out.2.1
  obtain ⟨p0, p1⟩ := TE.out.2.2.cells
  have g0 : ∀ o, we.frozen? ⟨w.heap.size + 1, o, none⟩ = false := fun o => frozen_of_row _ _ _ _ _ TE.out.2.2
  have g0' := g0 0
  have g1' := g0 1
  clear g0
  have HF : Hid (BoxP (fin2r we (w.heap.size + 1) 0 (.slice none 0 0)) (w.heap.size + 1) 0 (.slice none 0 0) ∧ RepNo w (z) 6 (.returned (.tuple #[Rp.zero, .iface 113 (.pointer (some ⟨bx, 0, none⟩))])) (fin2r we (w.heap.size + 1) 0 (.slice none 0 0))) := Lib.hid ⟨fin2r_box TE.out.2.2 _ _, _, rfl, PErr.off2 HX.out (fin2r_off _ _ _ _) TE.out.2.2, fin2r_below TE.out.1 _ (by omega) _ _⟩
  unfold fin2r at HF
  go_wp2
  generalize (World.setCell (World.setCell we _ _) _ _) = W at HF ⊢
  obtain ⟨d0, d1⟩ := HF.out.1.cells
  refine bodyPost_ret (v := .tuple #[Rp.zero, .iface 113 (.pointer (some ⟨bx, 0, none⟩))]) ?_ rfl HF.out.2
  simp [results, Tryd.results21, go_sem, d0, d1, Rp.zero]
end Go.Proofs.YtngfaailbkadfaaDoor
/- pdu.Read: the reply that bytes tell. -/
namespace Go.Proofs.YtngfaailbkadfaaDoor
open Go.RowKit Go.Extern.Stop Go.Stop Go.Extern
set_option maxRecDepth 100000

set_option maxRecDepth 100000 in
set_option maxHeartbeats 4000000 in
theorem read_ok (r : Rq) (v vb : Value) (y : UInt8) (l : List UInt8) (w : World) (hv : IntsAt w v r.vs) (hy : BytesAt w vb (y :: l)) (hm : r.may = true) (hl : r.vs.length ≤ 100000) (hlb : (y :: l).length ≤ 100000) (hd : readB r (y :: l) = true) (hz : (y.toNat : Int) = r.f ∨ (y.toNat : Int) = r.f + 128) : Calls Tryd.prog 21 #[r.val v, vb] w (RepOk w (parseR r (y :: l))) := by
  obtain ⟨f, s, c, us⟩ := r
  unfold Rq.val
  dsimp only at hv hl ⊢
  have HV := Lib.hid hv
  have HY := Lib.hid hy
  have HL := Lib.hid (And.intro hl hlb)
  obtain ⟨av, kv, rfl, _⟩ := id hv
  obtain ⟨wx, hwx⟩ : ∃ wx, wx = (w.alloc (.cells #[.int .i64 f, .int .i64 s, .int .i64 c, .slice av us.length kv] 24)).alloc (.cells #[.int .i64 0, .slice none 0 0] 52) := ⟨_, rfl⟩
  have T0 : Hid (Two w wx f s c (.slice av us.length kv) 0 (.slice none 0 0)) := Lib.hid (by rw [hwx]; exact two_new _ _ _ _ _ _ _)
  have HM := Lib.hid hm
  have HFB := Lib.hid (f_ok hm)
  have HB := Lib.hid (readB_iff.1 hd)
  have HZ := Lib.hid hz
  clear hd hz
  clear hv hy hl hlb hm
  obtain ⟨b, off, cap, rfl, _⟩ := bytesAt_cons HY.out
  go_enter Tryd.func21, Tryd.ntmps21
  go_wp2_with fail
  rw [← hwx]
  clear hwx
  refine (may_any f s c _ us wx (HV.out.on T0.out.1) HL.out.1).mono ?_
  rintro e w1 ⟨rfl, hb⟩
  have hmm : mayB f s c us = true := HM.out
  rw [hmm]
  clear hmm
  have T1 := Lib.hid (T0.out.on hb)
  clear hb
  have Y1 := Lib.hid (HY.out.on T1.out.1)
  have hc0 : w1.cell? ⟨b, off, none⟩ = some (.int .u8 (y.toNat : Int)) := by
    obtain ⟨b', off', cap', e, hc⟩ := bytesAt_cons Y1.out
    simp only [Value.slice.injEq, Option.some.injEq, Addr.mk.injEq] at e
    obtain ⟨⟨rfl, rfl, _⟩, _, _⟩ := e
    exact hc
  have hlen : ((l.length : Int) + 1 == 0) = false := by simp; omega
  have z0 : (0 : Int) ≤ (y.toNat : Int) := by omega
  have z1 : (y.toNat : Int) ≤ 255 := by have := byte_lt y; omega
  generalize hzz : (y.toNat : Int) = z at *
  clear hzz
  have hf1 : 1 ≤ f := HFB.out.1
  have hf2 : f ≤ 16 := HFB.out.2
  obtain ⟨c0, c1, c2, c3⟩ := cells4 T1.out.2.1
  have hz : Hid (z = f ∨ z = f + 128) := HZ
  have body : f = z ∨ (z != f) = true ∧ f + 128 = z := by
    rcases hz.out with h | h
    · exact .inl h.symm
    · exact .inr ⟨by simp; omega, h.symm⟩
  clear hz
  rcases body with rfl | ⟨hne, rfl⟩ <;> (
    go_wp2_with fail
    refine (parser_any ⟨f, s, c, us⟩ _ _ (y :: l) w1 Y1.out HL.out.2).mono ?_
    rintro e w2 ⟨v2, rfl, hv2, hb⟩
    have T2 := Lib.hid (T1.out.on hb)
    have HPL := Lib.hid (parseR_length HM.out (y :: l))
    generalize parseR ⟨f, s, c, us⟩ (y :: l) = q at *
    obtain ⟨code, vs⟩ := q
    unfold Rp.val
    dsimp only at HPL hv2 ⊢
    obtain ⟨a2, k2, rfl⟩ := row_slice hv2
    have HSZ : Hid (w.heap.size + 1 < w1.heap.size) := Lib.hid (lt_heap T1.out.2.2)
    obtain ⟨w3, hw3⟩ : ∃ x, x = w2.alloc (.cells #[.int .i64 code, .slice a2 vs.length k2] 52) := ⟨_, rfl⟩
    have T3 : Hid (Two w w3 f s c (.slice av us.length kv) 0 (.slice none 0 0)) := Lib.hid (by rw [hw3]; exact T2.out.on (below_new _ _))
    have Q3 : Hid (BoxP w3 w2.heap.size code (.slice a2 vs.length k2)) := Lib.hid (by rw [hw3]; exact heap_alloc_new w2 _)
    have O3 : Hid (w3.ownsRow w1.heap.size 3 1 (.slice a2 vs.length k2) vs.length (icells vs)) := Lib.hid (by rw [hw3]; exact ownsRow_off hv2 (Off.of_below (fun _ => False) (below_new w2 _)) (fun _ _ f => f))
    have Y3 : Hid (BytesAt w3 (.slice (some ⟨b, off, none⟩) (l.length + 1) cap) (y :: l)) := Lib.hid (HY.out.on T3.out.1)
    clear hv2 hb c0 c1 c2 c3 hc0
    obtain ⟨c0, c1, c2, c3⟩ := cells4 (T2.out.on (below_new w2 (.cells #[.int .i64 code, .slice a2 vs.length k2] 52))).2.1
    go_wp2_with fail
    rw [← hw3]
    clear hw3 c0 c1 c2 c3
    refine (ans_ok ⟨f, s, c, us⟩ ⟨code, vs⟩ _ _ w3 (HV.out.on T3.out.1) (intsAt_own O3.out) HM.out HB.out.1 HL.out.1 (by show vs.length ≤ 100000; have := HPL.out; omega)).mono ?_
    rintro e w4 ⟨x4, rfl, hx4, hb⟩
    rw [HB.out.2] at hx4
    obtain ⟨a4, k4, rfl, _⟩ := bytesAt_own hx4
    have Z4 := Lib.hid (bytesAt_own hx4)
    have T4 := Lib.hid (T3.out.on hb)
    have Q4 := Lib.hid (Q3.out.on hb)
    have O4 := Lib.hid (ownsRow_off O3.out (Off.of_below (fun _ => False) hb) (fun _ _ f => f))
    have Y4 := Lib.hid (Y3.out.on hb)
    clear hx4 hb
    go_wp2_with fail
    refine (bequal_any _ _ _ _ w4 Z4.out Y4.out).mono ?_
    rintro e w5 ⟨rfl, rfl⟩
    rw [beq_self_eq_true]
    obtain ⟨c0, c1, c2, c3⟩ := cells4 T4.out.2.1
    obtain ⟨p0, p1⟩ := T4.out.2.2.cells
    have g0 : ∀ o, w4.frozen? ⟨w.heap.size + 1, o, none⟩ = false := fun o => frozen_of_row _ _ _ _ _ T4.out.2.2
    have g0' := g0 0
    have g1' := g0 1
    clear g0
    obtain ⟨e0, e1⟩ := Q4.out.cells
    have HF : Hid (BoxP (fin2r w4 (w.heap.size + 1) code (.slice a2 vs.length k2)) (w.heap.size + 1) code (.slice a2 vs.length k2) ∧ RepOk w ⟨code, vs⟩ (.returned (.tuple #[Rp.val ⟨code, vs⟩ (.slice a2 vs.length k2), .nilIface])) (fin2r w4 (w.heap.size + 1) code (.slice a2 vs.length k2))) := Lib.hid ⟨fin2r_box T4.out.2.2 _ _, _, rfl, ownsRow_base (ownsRow_off O4.out (fin2r_off _ _ _ _) (fun k e s => by have := (O4.out.lt k e).1; have := HSZ.out; omega)) (by have := HSZ.out; omega), fin2r_below T4.out.1 _ (by omega) _ _⟩
    unfold fin2r at HF
    go_wp2
    generalize (World.setCell (World.setCell w4 _ _) _ _) = W at HF ⊢
    obtain ⟨d0, d1⟩ := HF.out.1.cells
    refine bodyPost_ret (v := .tuple #[Rp.val ⟨code, vs⟩ (.slice a2 vs.length k2), .nilIface]) ?_ rfl HF.out.2
    simp [results, Tryd.results21, go_sem, d0, d1, Rp.val])
end Go.Proofs.YtngfaailbkadfaaDoor
