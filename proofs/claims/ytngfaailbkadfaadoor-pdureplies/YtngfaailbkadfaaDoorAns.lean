/- pdu.mayReply, parseReply, Same: replies; when two requests are equal. -/
import Derived.Test.YtngfaailbkadfaaDoorDec
namespace Go.Proofs.YtngfaailbkadfaaDoor
open Go.RowKit Go.Extern.Stop Go.Stop Go.Extern
set_option maxRecDepth 100000

def Rp.val (p : Rp) (v : Value) : Value := .agg #[.int .i64 p.code, v]
/-- A reply's box. -/
def BoxP (w : World) (k : Nat) (c : Int) (v : Value) : Prop := w.heap[k]? = some (.cells #[.int .i64 c, v] 52 (0, 0))
theorem BoxP.on {w w' : World} {k : Nat} {c : Int} {v : Value} (h : BoxP w k c v) (hb : Below w.heap.size w w') : BoxP w' k c v := (hb.block k (lt_heap h)).trans h
theorem BoxP.keeps {w w' : World} {k : Nat} {c : Int} {v : Value} (h : BoxP w k c v) (hk : Keeps w w') : BoxP w' k c v := hk k _ 52 (by decide) (by decide) h
theorem BoxP.cells {w : World} {k : Nat} {c : Int} {v : Value} (h : BoxP w k c v) : w.cell? ⟨k, 0, none⟩ = some (.int .i64 c) ∧ w.cell? ⟨k, 1, none⟩ = some v := cells2 h
theorem cells3 {w : World} {k : Nat} {a0 a1 a2 : Value} {t : TypeId} (h : w.heap[k]? = some (.cells #[a0, a1, a2] t (0, 0))) : w.cell? ⟨k, 0, none⟩ = some a0 ∧ w.cell? ⟨k, 1, none⟩ = some a1 ∧ w.cell? ⟨k, 2, none⟩ = some a2 := by
  refine ⟨?_, ?_, ?_⟩ <;> (rw [cell_of_row _ _ _ _ _ _ h]; rfl)
/-- A reply's values: one box behind the other. -/
def Two (w W : World) (f s c : Int) (v : Value) (code : Int) (pv : Value) : Prop := Below w.heap.size w W ∧ BoxR W w.heap.size f s c v ∧ BoxP W (w.heap.size + 1) code pv
theorem two_new (w : World) (f s c : Int) (v : Value) (code : Int) (pv : Value) : Two w ((w.alloc (.cells #[.int .i64 f, .int .i64 s, .int .i64 c, v] 24)).alloc (.cells #[.int .i64 code, pv] 52)) f s c v code pv := by
  refine ⟨(below_new w _).trans ((below_new (w.alloc _) _).mono (by simp)), ?_, ?_⟩
  · have h : BoxR (w.alloc (.cells #[.int .i64 f, .int .i64 s, .int .i64 c, v] 24)) w.heap.size f s c v := heap_alloc_new w _
    exact h.on (below_new _ _)
  · have h := heap_alloc_new (w.alloc (.cells #[.int .i64 f, .int .i64 s, .int .i64 c, v] 24)) (.cells #[.int .i64 code, pv] 52)
    simpa [BoxP] using h
theorem Two.on {w W W' : World} {f s c : Int} {v : Value} {code : Int} {pv : Value} (h : Two w W f s c v code pv) (hb : Below W.heap.size W W') : Two w W' f s c v code pv := ⟨h.1.trans (hb.mono h.1.size), h.2.1.on hb, h.2.2.on hb⟩

set_option maxRecDepth 100000 in
set_option maxHeartbeats 4000000 in
theorem mayr_any (f s c : Int) (v : Value) (us : List Int) (code : Int) (pv : Value) (vs : List Int) (w : World) (hp : IntsAt w pv vs) (hl : vs.length ≤ 100000) : Calls Tryd.prog 42 #[.agg #[.int .i64 f, .int .i64 s, .int .i64 c, v], .agg #[.int .i64 code, pv]] w fun e w' => e = .returned (.bool (mayR ⟨f, s, c, us⟩ ⟨code, vs⟩)) ∧ Below w.heap.size w w' := by
  have HP := Lib.hid hp
  have HL := Lib.hid hl
  have HM : Hid (mayR ⟨f, s, c, us⟩ ⟨code, vs⟩ = (within code 0 255 && areV vs (if code = 0 ∧ fReads f = true then c else 0) (fTop f))) := Lib.hid rfl
  obtain ⟨wx, hwx⟩ : ∃ wx, wx = (w.alloc (.cells #[.int .i64 f, .int .i64 s, .int .i64 c, v] 24)).alloc (.cells #[.int .i64 code, pv] 52) := ⟨_, rfl⟩
  have T0 : Hid (Two w wx f s c v code pv) := Lib.hid (by rw [hwx]; exact two_new _ _ _ _ _ _ _)
  clear hp hl
  by_cases h0 : code = 0
  · subst h0
    go_enter Tryd.func42, Tryd.ntmps42
    go_wp2_with fail
    rw [← hwx]
    clear hwx
    refine (format_any f wx).mono ?_
    rintro e w1 ⟨rfl, hb⟩
    have T1 := Lib.hid (T0.out.on hb)
    clear hb
    unfold fmtV
    generalize fMost f = m
    generalize fTop f = t at HM ⊢
    generalize fReads f = rd at HM ⊢
    have T2 : Hid (Two w (w1.alloc (.cells #[.int .i64 m, .int .i64 t, .bool rd] 75)) f s c v 0 pv) := Lib.hid (T1.out.on (below_new _ _))
    have F2 : Hid ((w1.alloc (.cells #[.int .i64 m, .int .i64 t, .bool rd] 75)).heap[w1.heap.size]? = some (.cells #[.int .i64 m, .int .i64 t, .bool rd] 75 (0, 0))) := Lib.hid (heap_alloc_new w1 _)
    obtain ⟨p0, p1⟩ := T2.out.2.2.cells
    obtain ⟨q0, q1, q2⟩ := cells3 F2.out
    obtain ⟨c0, c1, c2, c3⟩ := cells4 T2.out.2.1
    cases rd <;> (
      go_wp2_with fail
      refine (within_any (0) 0 255 _).mono ?_
      rintro e w3 ⟨rfl, rfl⟩
      rcases Bool.eq_false_or_eq_true (within (0) 0 255) with e1 | e1
      · rw [e1]
        go_wp2_with fail
        refine (values_any pv vs _ t _ (HP.out.on T2.out.1) (by have := HL.out; omega)).mono ?_
        rintro e w4 ⟨rfl, hb4⟩
        have HB4 := Lib.hid (T2.out.1.trans (hb4.mono T2.out.1.size))
        clear hb4
        go_wp2
        go_ret
        refine ⟨?_, HB4.out⟩
        rw [HM.out, e1]
        first | rfl | simp
      · rw [e1]
        go_wp2
        go_ret
        refine ⟨?_, T2.out.1⟩
        rw [HM.out, e1]
        rfl)
  · have n0 : (code == 0) = false := by simpa using h0
    have HN := Lib.hid h0
    clear h0
    go_enter Tryd.func42, Tryd.ntmps42
    go_wp2_with fail
    rw [← hwx]
    clear hwx
    refine (format_any f wx).mono ?_
    rintro e w1 ⟨rfl, hb⟩
    have T1 := Lib.hid (T0.out.on hb)
    clear hb
    unfold fmtV
    generalize fMost f = m
    generalize fTop f = t at HM ⊢
    generalize fReads f = rd at HM ⊢
    have T2 : Hid (Two w (w1.alloc (.cells #[.int .i64 m, .int .i64 t, .bool rd] 75)) f s c v code pv) := Lib.hid (T1.out.on (below_new _ _))
    have F2 : Hid ((w1.alloc (.cells #[.int .i64 m, .int .i64 t, .bool rd] 75)).heap[w1.heap.size]? = some (.cells #[.int .i64 m, .int .i64 t, .bool rd] 75 (0, 0))) := Lib.hid (heap_alloc_new w1 _)
    obtain ⟨p0, p1⟩ := T2.out.2.2.cells
    obtain ⟨q0, q1, q2⟩ := cells3 F2.out
    obtain ⟨c0, c1, c2, c3⟩ := cells4 T2.out.2.1
    cases rd <;> (
      go_wp2_with fail
      refine (within_any (code) 0 255 _).mono ?_
      rintro e w3 ⟨rfl, rfl⟩
      rcases Bool.eq_false_or_eq_true (within (code) 0 255) with e1 | e1
      · rw [e1]
        go_wp2_with fail
        refine (values_any pv vs _ t _ (HP.out.on T2.out.1) (by have := HL.out; omega)).mono ?_
        rintro e w4 ⟨rfl, hb4⟩
        have HB4 := Lib.hid (T2.out.1.trans (hb4.mono T2.out.1.size))
        clear hb4
        go_wp2
        go_ret
        refine ⟨?_, HB4.out⟩
        rw [HM.out, e1]
        simp [HN.out]
      · rw [e1]
        go_wp2
        go_ret
        refine ⟨?_, T2.out.1⟩
        rw [HM.out, e1]
        rfl)

/-- When are two requests equal? -/
def sameQB (r q : Rq) : Bool := decide (r.f = q.f) && decide (r.s = q.s) && decide (r.c = q.c) && (r.vs == q.vs)
theorem sameB_iff {r q : Rq} : sameQB r q = true ↔ r = q := by
  obtain ⟨f, s, c, vs⟩ := r
  obtain ⟨f2, s2, c2, vs2⟩ := q
  simp [sameQB, and_assoc]
/-- The result's box, written. -/
def fin2r (w4 : World) (k : Nat) (c : Int) (V : Value) : World := (w4.setCell ⟨k, 0, none⟩ (.int .i64 c)).setCell ⟨k, 1, none⟩ V
theorem fin2r_below {w w4 : World} (h : Below w.heap.size w w4) (k : Nat) (hk : w.heap.size ≤ k) (c : Int) (V : Value) : Below w.heap.size w (fin2r w4 k c V) := (h.setCell hk _).setCell hk _
theorem fin2r_box {w4 : World} {k : Nat} {c0 : Int} {V0 : Value} (h : BoxP w4 k c0 V0) (c : Int) (V : Value) : BoxP (fin2r w4 k c V) k c V := by
  unfold BoxP fin2r
  rw [heap_set _ _ _ _ _ _ _ (heap_set _ _ _ _ _ _ _ h)]
  rfl
theorem fin2r_off (w4 : World) (k : Nat) (c : Int) (V : Value) : Off (fun j => j = k) w4 (fin2r w4 k c V) := by
  unfold fin2r
  exact Off.trans (Off.set (fun j => j = k) w4 ⟨k, 0, none⟩ _ rfl) (Off.set (fun j => j = k) _ ⟨k, 1, none⟩ _ rfl)
def ParseR (w : World) (p : Rp) (e : Ending) (w' : World) : Prop := ∃ v', e = .returned (p.val v') ∧ w'.ownsRow w.heap.size 3 1 v' p.vs.length (icells p.vs) ∧ Below w.heap.size w w'

set_option maxRecDepth 100000 in
set_option maxHeartbeats 4000000 in
theorem parser_any (r : Rq) (v vb : Value) (b : List UInt8) (w : World) (hv : BytesAt w vb b) (hl : b.length ≤ 100000) : Calls Tryd.prog 46 #[r.val v, vb] w (ParseR w (parseR r b)) := by
  obtain ⟨f, s, c, us⟩ := r
  unfold Rq.val
  dsimp only
  have HV := Lib.hid hv
  have HL := Lib.hid hl
  have HP : Hid (parseR ⟨f, s, c, us⟩ b = if (rdN b 0 1).1 = f then (if fReads f = true then ⟨0, takeF b (rdN b 0 1).2 f c⟩ else ⟨0, []⟩) else ⟨(rdN b (rdN b 0 1).2 1).1, []⟩) := Lib.hid rfl
  generalize parseR ⟨f, s, c, us⟩ b = q at HP ⊢
  obtain ⟨ao, cap, rfl, _⟩ := id hv
  obtain ⟨wx, hwx⟩ : ∃ wx, wx = (w.alloc (.cells #[.int .i64 f, .int .i64 s, .int .i64 c, v] 24)).alloc (.cells #[.int .i64 0, .slice none 0 0] 52) := ⟨_, rfl⟩
  have T0 : Hid (Two w wx f s c v 0 (.slice none 0 0)) := Lib.hid (by rw [hwx]; exact two_new _ _ _ _ _ _ _)
  have V0 := Lib.hid (HV.out.on T0.out.1)
  clear hv hl
  go_enter Tryd.func46, Tryd.ntmps46
  go_wp2_with fail
  rw [← hwx]
  clear hwx
  refine (rs_new _ b wx V0.out (by have := HL.out; omega)).mono ?_
  rintro e w1 ⟨r, rfl, hr⟩
  have R1 := Lib.hid hr
  have T1 := Lib.hid (T0.out.on hr.below)
  clear hr
  go_wp2_with fail
  refine (rs_b wx w1 r b 0 1 R1.out (by omega) (by omega)).mono ?_
  rintro e w2 ⟨⟨x0, rfl⟩, hr, _⟩
  have R2 := Lib.hid hr
  have T2 := Lib.hid (T0.out.on hr.below)
  clear hr
  generalize (rdN b 0 1).1 = z at *
  generalize (rdN b 0 1).2 = p1 at *
  obtain ⟨c0, c1, c2, c3⟩ := cells4 T2.out.2.1
  by_cases hz : z = f
  · subst hz
    go_wp2_with fail
    refine (format_any z w2).mono ?_
    rintro e w3 ⟨rfl, hb⟩
    have R3 := Lib.hid (R2.out.on hb)
    have T3 := Lib.hid (T2.out.on hb)
    clear hb c0 c1 c2 c3
    obtain ⟨c0, c1, c2, c3⟩ := cells4 T3.out.2.1
    unfold fmtV
    generalize fMost z = m
    generalize fTop z = t
    generalize hrd : fReads z = rd at HP ⊢
    cases rd with
    | false =>
      have HQ : Hid (q = ⟨0, []⟩) := Lib.hid (by rw [HP.out]; simp)
      have TE := T3
      clear HP hrd
      go_wp2
      rw [fld2]
      obtain ⟨p0, p1⟩ := TE.out.2.2.cells
      have g0 : ∀ o, w3.frozen? ⟨w.heap.size + 1, o, none⟩ = false := fun o => frozen_of_row _ _ _ _ _ TE.out.2.2
      have g0' := g0 0
      have g1' := g0 1
      clear g0
      have HF : Hid (BoxP (fin2r w3 (w.heap.size + 1) (0) (.slice none 0 0)) (w.heap.size + 1) (0) (.slice none 0 0) ∧ ParseR w ⟨0, []⟩ (.returned (Rp.val ⟨0, []⟩ (.slice none 0 0))) (fin2r w3 (w.heap.size + 1) (0) (.slice none 0 0))) := Lib.hid ⟨fin2r_box TE.out.2.2 _ _, _, rfl, World.ownsRow_nil _ _ _ _, fin2r_below TE.out.1 _ (by omega) _ _⟩
      unfold fin2r at HF
      go_wp2
      generalize (World.setCell (World.setCell w3 _ _) _ _) = W at HF ⊢
      obtain ⟨d0, d1⟩ := HF.out.1.cells
      refine bodyPost_ret (v := Rp.val ⟨0, []⟩ (.slice none 0 0)) ?_ rfl ?_
      · simp [results, Tryd.results46, go_sem, d0, d1, Rp.val]
      · rw [HQ.out]
        exact HF.out.2
    | true =>
      have HQ : Hid (q = ⟨0, takeF b p1 z c⟩) := Lib.hid (by rw [HP.out]; simp)
      clear HP hrd
      go_wp2
      rw [fld2]
      go_wp2_with fail
      have HR : Hid (w.heap.size + 1 < r ∧ w.heap.size + 1 < w3.heap.size) := Lib.hid ⟨Nat.lt_of_lt_of_le (lt_heap T0.out.2.2) R3.out.base, lt_heap T3.out.2.2⟩
      refine (takev_any wx w3 r b p1 z c R3.out HL.out).mono ?_
      rintro e w5 ⟨⟨v5, rfl, hv5⟩, hb5, ho5⟩
      obtain ⟨a5, k5, rfl⟩ := row_slice hv5
      have V5 := Lib.hid hv5
      have TE : Hid (Two w w5 z s c v 0 (.slice none 0 0)) := Lib.hid (T0.out.on hb5)
      clear hv5 hb5 ho5 c0 c1 c2 c3
      generalize takeF b p1 z c = vs at *
      obtain ⟨p0, p1⟩ := TE.out.2.2.cells
      have g0 : ∀ o, w5.frozen? ⟨w.heap.size + 1, o, none⟩ = false := fun o => frozen_of_row _ _ _ _ _ TE.out.2.2
      have g0' := g0 0
      have g1' := g0 1
      clear g0
      have HF : Hid (BoxP (fin2r w5 (w.heap.size + 1) (0) (.slice a5 vs.length k5)) (w.heap.size + 1) (0) (.slice a5 vs.length k5) ∧ ParseR w ⟨0, vs⟩ (.returned (Rp.val ⟨0, vs⟩ (.slice a5 vs.length k5))) (fin2r w5 (w.heap.size + 1) (0) (.slice a5 vs.length k5))) := Lib.hid ⟨fin2r_box TE.out.2.2 _ _, _, rfl, ownsRow_base (ownsRow_off V5.out (fin2r_off _ _ _ _) (fun k e s => by have := (V5.out.lt k e).1; have := HR.out; omega)) (by have := HR.out; omega), fin2r_below TE.out.1 _ (by omega) _ _⟩
      unfold fin2r at HF
      go_wp2
      generalize (World.setCell (World.setCell w5 _ _) _ _) = W at HF ⊢
      obtain ⟨d0, d1⟩ := HF.out.1.cells
      refine bodyPost_ret (v := Rp.val ⟨0, vs⟩ (.slice a5 vs.length k5)) ?_ rfl ?_
      · simp [results, Tryd.results46, go_sem, d0, d1, Rp.val]
      · rw [HQ.out]
        exact HF.out.2
  · have hne : (z != f) = true := by simpa using hz
    have HQ : Hid (q = ⟨(rdN b p1 1).1, []⟩) := Lib.hid (by rw [HP.out, if_neg hz])
    clear HP hz
    go_wp2_with fail
    refine (rs_b wx w2 r b p1 1 R2.out (by omega) (by omega)).mono ?_
    rintro e w3 ⟨⟨x1, rfl⟩, hr, _⟩
    have TE := Lib.hid (T0.out.on hr.below)
    clear hr c0 c1 c2 c3
    generalize (rdN b p1 1).1 = code at *
    obtain ⟨p0, p1⟩ := TE.out.2.2.cells
    have g0 : ∀ o, w3.frozen? ⟨w.heap.size + 1, o, none⟩ = false := fun o => frozen_of_row _ _ _ _ _ TE.out.2.2
    have g0' := g0 0
    have g1' := g0 1
    clear g0
    have HF : Hid (BoxP (fin2r w3 (w.heap.size + 1) (code) (.slice none 0 0)) (w.heap.size + 1) (code) (.slice none 0 0) ∧ ParseR w ⟨code, []⟩ (.returned (Rp.val ⟨code, []⟩ (.slice none 0 0))) (fin2r w3 (w.heap.size + 1) (code) (.slice none 0 0))) := Lib.hid ⟨fin2r_box TE.out.2.2 _ _, _, rfl, World.ownsRow_nil _ _ _ _, fin2r_below TE.out.1 _ (by omega) _ _⟩
    unfold fin2r at HF
    go_wp2
    generalize (World.setCell (World.setCell w3 _ _) _ _) = W at HF ⊢
    obtain ⟨d0, d1⟩ := HF.out.1.cells
    refine bodyPost_ret (v := Rp.val ⟨code, []⟩ (.slice none 0 0)) ?_ rfl ?_
    · simp [results, Tryd.results46, go_sem, d0, d1, Rp.val]
    · rw [HQ.out]
      exact HF.out.2
end Go.Proofs.YtngfaailbkadfaaDoor
/- pdu.Answer: the bytes of a reply, or the error. -/
namespace Go.Proofs.YtngfaailbkadfaaDoor
open Go.RowKit Go.Extern.Stop Go.Stop Go.Extern
set_option maxRecDepth 100000

theorem Two.keeps {w W W' : World} {f s c : Int} {v : Value} {code : Int} {pv : Value} (h : Two w W f s c v code pv) (hk : Keeps W W') (hb : Below w.heap.size w W') : Two w W' f s c v code pv := ⟨hb, h.2.1.keeps hk, h.2.2.keeps hk⟩

set_option maxRecDepth 100000 in
set_option maxHeartbeats 4000000 in
theorem ans_ok (r : Rq) (p : Rp) (v pv : Value) (w : World) (hv : IntsAt w v r.vs) (hp : IntsAt w pv p.vs) (hm : r.may = true) (hr : mayR r p = true) (hl : r.vs.length ≤ 100000) (hlp : p.vs.length ≤ 100000) : Calls Tryd.prog 18 #[r.val v, p.val pv] w (BytesOk w (ansF r p)) := by
  obtain ⟨f, s, c, us⟩ := r
  obtain ⟨code, vs⟩ := p
  unfold Rq.val Rp.val
  dsimp only at hv hp hl hlp ⊢
  have HV := Lib.hid hv
  have HP := Lib.hid hp
  have HL := Lib.hid (And.intro hl hlp)
  obtain ⟨av, kv, rfl, _⟩ := id hv
  obtain ⟨ap, kp, rfl, _⟩ := id hp
  obtain ⟨wx, hwx⟩ : ∃ wx, wx = (w.alloc (.cells #[.int .i64 f, .int .i64 s, .int .i64 c, .slice av us.length kv] 24)).alloc (.cells #[.int .i64 code, .slice ap vs.length kp] 52) := ⟨_, rfl⟩
  have T0 : Hid (Two w wx f s c (.slice av us.length kv) code (.slice ap vs.length kp)) := Lib.hid (by rw [hwx]; exact two_new _ _ _ _ _ _ _)
  have HM := Lib.hid hm
  have HR := Lib.hid hr
  have HF := Lib.hid (f_ok hm)
  have HK := Lib.hid (rkind_of hm hr)
  have HLA := Lib.hid (ansF_length hm hr)
  clear hv hp hl hlp hm hr
  go_enter Tryd.func18, Tryd.ntmps18
  go_wp2_with fail
  rw [← hwx]
  clear hwx
  refine (may_any f s c _ us wx (HV.out.on T0.out.1) HL.out.1).mono ?_
  rintro e w1 ⟨rfl, hb⟩
  have hmm : mayB f s c us = true := HM.out
  rw [hmm]
  clear hmm
  have T1 := Lib.hid (T0.out.on hb)
  clear hb
  obtain ⟨c0, c1, c2, c3⟩ := cells4 T1.out.2.1
  obtain ⟨p0, p1⟩ := T1.out.2.2.cells
  go_wp2_with fail
  refine (mayr_any f s c _ us code _ vs w1 (HP.out.on T1.out.1) HL.out.2).mono ?_
  rintro e w2 ⟨rfl, hb⟩
  rw [HR.out]
  have T2 := Lib.hid (T1.out.on hb)
  clear hb c0 c1 c2 c3 p0 p1
  obtain ⟨c0, c1, c2, c3⟩ := cells4 T2.out.2.1
  obtain ⟨p0, p1⟩ := T2.out.2.2.cells
  go_wp2_with fail
  refine (new_writer w2).mono ?_
  rintro e w3 ⟨rfl, rfl⟩
  have S3 := Lib.hid (St.new w2)
  have T3 := Lib.hid (T2.out.on (below_new w2 (.cells #[.slice none 0 0] 95)))
  obtain ⟨w3, hw3⟩ : ∃ x, x = w2.alloc (.cells #[.slice none 0 0] 95) := ⟨_, rfl⟩
  rw [← hw3] at S3 T3 ⊢
  clear hw3 c0 c1 c2 c3 p0 p1
  obtain ⟨c0, c1, c2, c3⟩ := cells4 T3.out.2.1
  obtain ⟨p0, p1⟩ := T3.out.2.2.cells
  have finish : ∀ (l : List UInt8) (w5 : World), St w2 w2.heap.size l w5 → ansF ⟨f, s, c, us⟩ ⟨code, vs⟩ = l → Hid (Calls Tryd.prog 28 #[.pointer (some ⟨w2.heap.size, 0, none⟩)] w5 (CopyIs w (ansF ⟨f, s, c, us⟩ ⟨code, vs⟩))) := fun l w5 h he => Lib.hid (by rw [he]; exact (st_out w2 w5 _ l h (by rw [← he]; have := HLA.out; omega)).mono fun e w6 h6 => h6.up (T2.out.1.trans (h.below.mono T2.out.1.size)))
  by_cases h0 : code = 0
  · subst h0
    have hz : 0 ≤ f ∧ f < 256 := by have : 1 ≤ f ∧ f ≤ 16 := HF.out; omega
    have HZ := Lib.hid hz
    clear hz
    go_wp2_with fail
    refine (format_any f w3).mono ?_
    rintro e w4 ⟨rfl, hb⟩
    have S4 := Lib.hid (S3.out.on hb)
    have T4 := Lib.hid (T3.out.on hb)
    clear hb c0 c1 c2 c3 p0 p1
    obtain ⟨c0, c1, c2, c3⟩ := cells4 T4.out.2.1
    obtain ⟨p0, p1⟩ := T4.out.2.2.cells
    unfold fmtV
    generalize fMost f = m
    generalize fTop f = t
    cases hrd : fReads f with
    | true =>
      have HE : Hid (ansF ⟨f, s, c, us⟩ ⟨0, vs⟩ = be 1 f ++ putF f vs) := Lib.hid (by simp [ansF, hrd])
      have HD : Hid (ValsOk f vs ∧ (dataF f vs).length ≤ 250) := Lib.hid (by
        cases HK.out with
        | exc hc hv => dsimp only at hc; omega
        | read hc hr hl hv hd => exact ⟨hv, hd⟩
        | done hc hr hv => dsimp only at hr; rw [hrd] at hr; cases hr)
      clear hrd
      go_wp2
      rw [fld2]
      go_wp2_with fail
      refine (st_b w2 w4 _ _ 1 f S4.out (by simp) (u1 HZ.out.1 HZ.out.2)).mono ?_
      rintro e w5 ⟨rfl, hs, hk⟩
      have S5 := Lib.hid hs
      have T5 := Lib.hid (T4.out.keeps hk (T2.out.1.trans (hs.below.mono T2.out.1.size)))
      clear hs hk c0 c1 c2 c3 p0 p1
      obtain ⟨c0, c1, c2, c3⟩ := cells4 T5.out.2.1
      obtain ⟨p0, p1⟩ := T5.out.2.2.cells
      go_wp2_with fail
      refine (putv_any w2 w5 _ _ f _ vs S5.out (HP.out.on T5.out.1) HD.out.1 HL.out.2 (by have := HD.out.2; omega) (by rw [List.nil_append, be_length]; omega)).mono ?_
      rintro e w6 ⟨rfl, hs, hk⟩
      have S6 := Lib.hid hs
      clear hs hk c0 c1 c2 c3 p0 p1
      go_wp2_with fail
      refine (finish _ w6 S6.out (by simpa using HE.out)).out.mono ?_
      rintro e w8 ⟨x, rfl, hx, hb⟩
      have H6 : Hid (BytesOk w (ansF ⟨f, s, c, us⟩ ⟨0, vs⟩) (.returned (.tuple #[x, .nilIface])) w8) := Lib.hid ⟨x, rfl, hx, hb⟩
      clear hx hb
      go_wp2
      go_ret2
      exact H6.out
    | false =>
      have HE : Hid (ansF ⟨f, s, c, us⟩ ⟨0, vs⟩ = headF ⟨f, s, c, us⟩) := Lib.hid (by simp [ansF, hrd])
      have HHL := Lib.hid (headF_length ⟨f, s, c, us⟩)
      clear hrd
      go_wp2
      rw [fld2]
      go_wp2_with fail
      refine (puth_any w2 w4 _ [] ⟨f, s, c, us⟩ _ S4.out (HV.out.on T2.out.1) HM.out (by simp)).mono ?_
      rintro e w6 ⟨rfl, hs, hk⟩
      have S6 := Lib.hid hs
      clear hs hk c0 c1 c2 c3 p0 p1
      go_wp2_with fail
      refine (finish _ w6 S6.out (by simpa using HE.out)).out.mono ?_
      rintro e w8 ⟨x, rfl, hx, hb⟩
      have H6 : Hid (BytesOk w (ansF ⟨f, s, c, us⟩ ⟨0, vs⟩) (.returned (.tuple #[x, .nilIface])) w8) := Lib.hid ⟨x, rfl, hx, hb⟩
      clear hx hb
      go_wp2
      go_ret2
      exact H6.out
  · have n0 : (code != 0) = true := by simpa using h0
    have HE : Hid (ansF ⟨f, s, c, us⟩ ⟨code, vs⟩ = be 1 (f + 128) ++ be 1 code) := Lib.hid (by simp [ansF, h0])
    have hz : 1 ≤ f ∧ f ≤ 16 := HF.out
    have HZ := Lib.hid hz
    obtain ⟨f1, f2⟩ := hz
    have HC : Hid (1 ≤ code ∧ code ≤ 255) := Lib.hid (by
      cases HK.out with
      | exc hc hv => exact hc
      | read hc hr hl hv hd => exact absurd hc h0
      | done hc hr hv => exact absurd hc h0)
    clear h0
    go_wp2_with fail
    refine (st_b w2 w3 _ _ 1 (f + 128) S3.out (by simp) (u1 (by have := HZ.out; omega) (by have := HZ.out; omega))).mono ?_
    rintro e w5 ⟨rfl, hs, hk⟩
    have S5 := Lib.hid hs
    have T5 := Lib.hid (T3.out.keeps hk (T2.out.1.trans (hs.below.mono T2.out.1.size)))
    clear hs hk c0 c1 c2 c3 p0 p1
    obtain ⟨c0, c1, c2, c3⟩ := cells4 T5.out.2.1
    obtain ⟨p0, p1⟩ := T5.out.2.2.cells
    go_wp2_with fail
    refine (st_b w2 w5 _ _ 1 code S5.out (by rw [List.nil_append, be_length]; omega) (u1 (by have := HC.out; omega) (by have := HC.out; omega))).mono ?_
    rintro e w6 ⟨rfl, hs, hk⟩
    have S6 := Lib.hid hs
    clear hs hk c0 c1 c2 c3 p0 p1
    go_wp2_with fail
    refine (finish _ w6 S6.out (by simpa using HE.out)).out.mono ?_
    rintro e w8 ⟨x, rfl, hx, hb⟩
    have H6 : Hid (BytesOk w (ansF ⟨f, s, c, us⟩ ⟨code, vs⟩) (.returned (.tuple #[x, .nilIface])) w8) := Lib.hid ⟨x, rfl, hx, hb⟩
    clear hx hb
    go_wp2
    go_ret2
    exact H6.out

set_option maxRecDepth 100000 in
set_option maxHeartbeats 4000000 in
theorem ans_no (r : Rq) (p : Rp) (v pv : Value) (w : World) (hv : IntsAt w v r.vs) (hp : IntsAt w pv p.vs) (hm : (r.may && mayR r p) = false) (hl : r.vs.length ≤ 100000) (hlp : p.vs.length ≤ 100000) : Calls Tryd.prog 18 #[r.val v, p.val pv] w (BytesNo w r.f 1) := by
  obtain ⟨f, s, c, us⟩ := r
  obtain ⟨code, vs⟩ := p
  unfold Rq.val Rp.val
  dsimp only at hv hp hl hlp ⊢
  have HV := Lib.hid hv
  have HP := Lib.hid hp
  have HL := Lib.hid (And.intro hl hlp)
  obtain ⟨av, kv, rfl, _⟩ := id hv
  obtain ⟨ap, kp, rfl, _⟩ := id hp
  obtain ⟨wx, hwx⟩ : ∃ wx, wx = (w.alloc (.cells #[.int .i64 f, .int .i64 s, .int .i64 c, .slice av us.length kv] 24)).alloc (.cells #[.int .i64 code, .slice ap vs.length kp] 52) := ⟨_, rfl⟩
  have T0 : Hid (Two w wx f s c (.slice av us.length kv) code (.slice ap vs.length kp)) := Lib.hid (by rw [hwx]; exact two_new _ _ _ _ _ _ _)
  rcases Bool.eq_false_or_eq_true (Rq.may ⟨f, s, c, us⟩) with hq | hq
  · have HM := Lib.hid hq
    have HR : Hid (mayR ⟨f, s, c, us⟩ ⟨code, vs⟩ = false) := Lib.hid (by rwa [hq, Bool.true_and] at hm)
    clear hv hp hl hlp hm hq
    go_enter Tryd.func18, Tryd.ntmps18
    go_wp2_with fail
    rw [← hwx]
    clear hwx
    refine (may_any f s c _ us wx (HV.out.on T0.out.1) HL.out.1).mono ?_
    rintro e w1 ⟨rfl, hb⟩
    have hmm : mayB f s c us = true := HM.out
    rw [hmm]
    clear hmm
    have T1 := Lib.hid (T0.out.on hb)
    clear hb
    obtain ⟨c0, c1, c2, c3⟩ := cells4 T1.out.2.1
    obtain ⟨p0, p1⟩ := T1.out.2.2.cells
    go_wp2_with fail
    refine (mayr_any f s c _ us code _ vs w1 (HP.out.on T1.out.1) HL.out.2).mono ?_
    rintro e w2 ⟨rfl, hb⟩
    rw [HR.out]
    have T2 := Lib.hid (T1.out.on hb)
    clear hb c0 c1 c2 c3 p0 p1
    obtain ⟨c0, c1, c2, c3⟩ := cells4 T2.out.2.1
    go_wp2_with fail
    refine (pfault_any f 1 w2).mono ?_
    rintro e w4 ⟨⟨x, rfl, hx⟩, hb⟩
    obtain ⟨bx, rfl⟩ := hx.form
    have H3 : Hid (BytesNo w f 1 (.returned (.tuple #[.slice none 0 0, .iface 113 (.pointer (some ⟨bx, 0, none⟩))])) w4) := Lib.hid ⟨_, rfl, hx, T2.out.1.trans (hb.mono T2.out.1.size)⟩
    clear hx hb c0 c1 c2 c3
    go_wp2
    go_ret2
    exact H3.out
  · have HM := Lib.hid hq
    clear hv hp hl hlp hm hq
    go_enter Tryd.func18, Tryd.ntmps18
    go_wp2_with fail
    rw [← hwx]
    clear hwx
    refine (may_any f s c _ us wx (HV.out.on T0.out.1) HL.out.1).mono ?_
    rintro e w1 ⟨rfl, hb⟩
    have hmm : mayB f s c us = false := HM.out
    rw [hmm]
    clear hmm
    have T1 := Lib.hid (T0.out.on hb)
    clear hb
    obtain ⟨c0, c1, c2, c3⟩ := cells4 T1.out.2.1
    obtain ⟨p0, p1⟩ := T1.out.2.2.cells
    clear c0 c1 c2 c3 p0 p1
    obtain ⟨c0, c1, c2, c3⟩ := cells4 T1.out.2.1
    go_wp2_with fail
    refine (pfault_any f 1 w1).mono ?_
    rintro e w4 ⟨⟨x, rfl, hx⟩, hb⟩
    obtain ⟨bx, rfl⟩ := hx.form
    have H3 : Hid (BytesNo w f 1 (.returned (.tuple #[.slice none 0 0, .iface 113 (.pointer (some ⟨bx, 0, none⟩))])) w4) := Lib.hid ⟨_, rfl, hx, T1.out.1.trans (hb.mono T1.out.1.size)⟩
    clear hx hb c0 c1 c2 c3
    go_wp2
    go_ret2
    exact H3.out
end Go.Proofs.YtngfaailbkadfaaDoor
