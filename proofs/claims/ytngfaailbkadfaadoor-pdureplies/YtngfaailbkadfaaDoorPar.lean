/- pdu.parseRequest: the request that bytes seem to encode. -/
import Derived.Test.YtngfaailbkadfaaDoorEnc
namespace Go.Proofs.YtngfaailbkadfaaDoor
open Go.RowKit Go.Extern.Stop Go.Stop Go.Extern
set_option maxRecDepth 100000

def ParseIs (w : World) (q : Rq) (e : Ending) (w' : World) : Prop := ∃ v', e = .returned (q.val v') ∧ w'.ownsRow w.heap.size 3 1 v' q.vs.length (icells q.vs) ∧ Below w.heap.size w w'
theorem rdN_bounds (b : List UInt8) (p n : Nat) (hn : n ≤ 2) : 0 ≤ (rdN b p n).1 ∧ (rdN b p n).1 ≤ 65535 := by
  unfold rdN
  split
  · have h := leNum_lt ((b.drop p).take n).reverse
    have h2 : ((b.drop p).take n).reverse.length ≤ 2 := by simp; omega
    have h3 : 256 ^ ((b.drop p).take n).reverse.length ≤ 256 ^ 2 := Nat.pow_le_pow_right (by omega) h2
    dsimp only
    omega
  · simp
/-- The result's box, written. -/
def fin4 (w4 : World) (k : Nat) (f s c : Int) (V : Value) : World := (((w4.setCell ⟨k, 0, none⟩ (.int .i64 f)).setCell ⟨k, 1, none⟩ (.int .i64 s)).setCell ⟨k, 2, none⟩ (.int .i64 c)).setCell ⟨k, 3, none⟩ V
theorem fin4_below {w w4 : World} (h : Below w.heap.size w w4) (f s c : Int) (V : Value) : Below w.heap.size w (fin4 w4 w.heap.size f s c V) :=
  (((h.setCell (Nat.le_refl _) _).setCell (Nat.le_refl _) _).setCell (Nat.le_refl _) _).setCell (Nat.le_refl _) _
theorem fin4_box {w4 : World} {k : Nat} {f0 s0 c0 : Int} {V0 : Value} (h : BoxR w4 k f0 s0 c0 V0) (f s c : Int) (V : Value) : BoxR (fin4 w4 k f s c V) k f s c V := by
  unfold BoxR fin4
  rw [heap_set _ _ _ _ _ _ _ (heap_set _ _ _ _ _ _ _ (heap_set _ _ _ _ _ _ _ (heap_set _ _ _ _ _ _ _ h)))]
  rfl
theorem fin4_off (w4 : World) (k : Nat) (f s c : Int) (V : Value) : Off (fun j => j = k) w4 (fin4 w4 k f s c V) := by
  unfold fin4
  refine Off.trans (Off.trans (Off.trans (Off.set (fun j => j = k) w4 ⟨k, 0, none⟩ _ rfl) (Off.set (fun j => j = k) _ ⟨k, 1, none⟩ _ rfl)) (Off.set (fun j => j = k) _ ⟨k, 2, none⟩ _ rfl)) (Off.set (fun j => j = k) _ ⟨k, 3, none⟩ _ rfl)
theorem fin4_size (w4 : World) (k : Nat) (f s c : Int) (V : Value) : (fin4 w4 k f s c V).heap.size = w4.heap.size := by simp [fin4]
theorem ints_lit (w : World) (y : Int) (B : Nat) (hB : B ≤ w.heap.size) : (w.alloc (.cells #[.int .i64 y] 3)).ownsRow B 3 1 (.slice (some ⟨w.heap.size, 0, none⟩) 1 1) 1 [.int .i64 y] := World.ownsRow_lit w #[.int .i64 y] 1 hB (by unfold maxLen; omega) (by simp)
/-- .. and what it says is handed out. -/
theorem par_end {w W : World} {k : Nat} {q : Rq} {V : Value} (hb : BoxR W k q.f q.s q.c V) (hv : W.ownsRow w.heap.size 3 1 V q.vs.length (icells q.vs)) (hx : Below w.heap.size w W) : BoxR W k q.f q.s q.c V ∧ ParseIs w q (.returned (q.val V)) W := ⟨hb, V, rfl, hv, hx⟩
set_option maxRecDepth 100000 in
set_option maxHeartbeats 4000000 in
theorem parse_any (v : Value) (b : List UInt8) (w : World) (hv : BytesAt w v b) (hl : b.length ≤ 100000) : Calls Tryd.prog 32 #[v] w (ParseIs w (parseF b)) := by
  have HV := Lib.hid hv
  have HL := Lib.hid hl
  have HP : Hid (parseF b = (if (rdN b 0 1).1 = 5 then ⟨(rdN b 0 1).1, (rdN b (rdN b 0 1).2 2).1, 1, [(rdN b (rdN b (rdN b 0 1).2 2).2 2).1 / 65280]⟩
  else if (rdN b 0 1).1 = 6 then ⟨(rdN b 0 1).1, (rdN b (rdN b 0 1).2 2).1, 1, [(rdN b (rdN b (rdN b 0 1).2 2).2 2).1]⟩
  else if (rdN b 0 1).1 = 15 ∨ (rdN b 0 1).1 = 16 then ⟨(rdN b 0 1).1, (rdN b (rdN b 0 1).2 2).1, (rdN b (rdN b (rdN b 0 1).2 2).2 2).1, takeF b (rdN b (rdN b (rdN b 0 1).2 2).2 2).2 (rdN b 0 1).1 (rdN b (rdN b (rdN b 0 1).2 2).2 2).1⟩
  else ⟨(rdN b 0 1).1, (rdN b (rdN b 0 1).2 2).1, (rdN b (rdN b (rdN b 0 1).2 2).2 2).1, []⟩)) := Lib.hid rfl
  generalize parseF b = q at HP ⊢
  obtain ⟨ao, cap, rfl, _⟩ := id hv
  obtain ⟨wx, hwx⟩ : ∃ wx, wx = w.alloc (.cells #[.int .i64 0, .int .i64 0, .int .i64 0, .slice none 0 0] 24) := ⟨_, rfl⟩
  have X0 : Hid (Below w.heap.size w wx) := Lib.hid (by rw [hwx]; exact below_new w _)
  have B0 : Hid (BoxR wx w.heap.size 0 0 0 (.slice none 0 0)) := Lib.hid (by rw [hwx]; exact heap_alloc_new w _)
  have V0 := Lib.hid (HV.out.on X0.out)
  clear hv hl
  go_enter Tryd.func32, Tryd.ntmps32
  go_wp2_with fail
  rw [← hwx]
  clear hwx
  refine (rs_new _ b wx V0.out (by have := HL.out; omega)).mono ?_
  rintro e w1 ⟨r, rfl, hr⟩
  have R1 := Lib.hid hr
  clear hr
  go_wp2_with fail
  refine (rs_b wx w1 r b 0 1 R1.out (by omega) (by omega)).mono ?_
  rintro e w2 ⟨⟨x0, rfl⟩, hr, _⟩
  have R2 := Lib.hid hr
  obtain ⟨f0, f1⟩ := rdN_bounds b 0 1 (by omega)
  clear hr
  generalize (rdN b 0 1).1 = f at *
  generalize (rdN b 0 1).2 = p1 at *
  go_wp2_with fail
  refine (rs_b wx w2 r b p1 2 R2.out (by omega) (by omega)).mono ?_
  rintro e w3 ⟨⟨x1, rfl⟩, hr, _⟩
  have R3 := Lib.hid hr
  clear hr
  generalize (rdN b p1 2).1 = s at *
  generalize (rdN b p1 2).2 = p2 at *
  go_wp2_with fail
  refine (rs_b wx w3 r b p2 2 R3.out (by omega) (by omega)).mono ?_
  rintro e w4 ⟨⟨x2, rfl⟩, hr, _⟩
  have R4 := Lib.hid hr
  obtain ⟨z0, z1⟩ := rdN_bounds b p2 2 (by omega)
  clear hr
  generalize (rdN b p2 2).1 = z at *
  generalize (rdN b p2 2).2 = p3 at *
  have B4 := Lib.hid (B0.out.on R4.out.below)
  obtain ⟨c0, c1, c2, c3⟩ := cells4 B4.out
  have g0 : ∀ o, w4.frozen? ⟨w.heap.size, o, none⟩ = false := fun o => frozen_of_row _ _ _ _ _ B4.out
  have g0' := g0 0
  have g1' := g0 1
  have g2' := g0 2
  have g3' := g0 3
  have hlt : w.heap.size < w4.heap.size := lt_heap B4.out
  clear g0
  by_cases h5 : f = 5
  · subst h5
    have HQ : Hid (q = ⟨5, s, 1, [z / 65280]⟩) := Lib.hid (by rw [HP.out]; simp)
    clear HP
    go_wp2
    have HF : Hid (BoxR ((fin4 w4 w.heap.size 5 s 1 (.slice (some ⟨w4.heap.size + 1, 0, none⟩) 1 1)).alloc (.cells #[.int .i64 5, .int .i64 s, .int .i64 1, .slice (some ⟨w4.heap.size + 1, 0, none⟩) 1 1] 24) |>.alloc (.cells #[.int .i64 (z / 65280)] 3)) w.heap.size 5 s 1 (.slice (some ⟨w4.heap.size + 1, 0, none⟩) 1 1) ∧ ParseIs w q (.returned (Rq.val ⟨5, s, 1, [z / 65280]⟩ (.slice (some ⟨w4.heap.size + 1, 0, none⟩) 1 1))) ((fin4 w4 w.heap.size 5 s 1 (.slice (some ⟨w4.heap.size + 1, 0, none⟩) 1 1)).alloc (.cells #[.int .i64 5, .int .i64 s, .int .i64 1, .slice (some ⟨w4.heap.size + 1, 0, none⟩) 1 1] 24) |>.alloc (.cells #[.int .i64 (z / 65280)] 3))) := Lib.hid (by
      rw [HQ.out]
      refine par_end (q := ⟨5, s, 1, [z / 65280]⟩) (((fin4_box B4.out _ _ _ _).on (below_new _ _)).on (below_new _ _)) ?_ (((fin4_below (X0.out.trans (R4.out.below.mono X0.out.size)) _ _ _ _).alloc (by have := (X0.out.trans (R4.out.below.mono X0.out.size)).size; rw [fin4_size]; exact this) _).alloc (by have := (X0.out.trans (R4.out.below.mono X0.out.size)).size; simp [fin4_size]; omega) _)
      have := ints_lit ((fin4 w4 w.heap.size 5 s 1 (.slice (some ⟨w4.heap.size + 1, 0, none⟩) 1 1)).alloc (.cells #[.int .i64 5, .int .i64 s, .int .i64 1, .slice (some ⟨w4.heap.size + 1, 0, none⟩) 1 1] 24)) (z / 65280) w.heap.size (by simp [fin4_size]; omega)
      simpa [fin4_size, icells] using this)
    unfold fin4 at HF
    generalize (World.alloc _ (.cells #[.int .i64 (z / 65280)] 3)) = W at HF ⊢
    obtain ⟨d0, d1, d2, d3⟩ := cells4 HF.out.1
    refine bodyPost_ret (v := Rq.val ⟨5, s, 1, [z / 65280]⟩ (.slice (some ⟨w4.heap.size + 1, 0, none⟩) 1 1)) ?_ rfl HF.out.2
    simp [results, Tryd.results32, go_sem, d0, d1, d2, d3, Rq.val]
  by_cases h6 : f = 6
  · subst h6
    have HQ : Hid (q = ⟨6, s, 1, [z]⟩) := Lib.hid (by rw [HP.out]; simp)
    clear HP
    go_wp2
    have HF : Hid (BoxR ((fin4 w4 w.heap.size 6 s 1 (.slice (some ⟨w4.heap.size + 1, 0, none⟩) 1 1)).alloc (.cells #[.int .i64 6, .int .i64 s, .int .i64 1, .slice (some ⟨w4.heap.size + 1, 0, none⟩) 1 1] 24) |>.alloc (.cells #[.int .i64 (z)] 3)) w.heap.size 6 s 1 (.slice (some ⟨w4.heap.size + 1, 0, none⟩) 1 1) ∧ ParseIs w q (.returned (Rq.val ⟨6, s, 1, [z]⟩ (.slice (some ⟨w4.heap.size + 1, 0, none⟩) 1 1))) ((fin4 w4 w.heap.size 6 s 1 (.slice (some ⟨w4.heap.size + 1, 0, none⟩) 1 1)).alloc (.cells #[.int .i64 6, .int .i64 s, .int .i64 1, .slice (some ⟨w4.heap.size + 1, 0, none⟩) 1 1] 24) |>.alloc (.cells #[.int .i64 (z)] 3))) := Lib.hid (by
      rw [HQ.out]
      refine par_end (q := ⟨6, s, 1, [z]⟩) (((fin4_box B4.out _ _ _ _).on (below_new _ _)).on (below_new _ _)) ?_ (((fin4_below (X0.out.trans (R4.out.below.mono X0.out.size)) _ _ _ _).alloc (by have := (X0.out.trans (R4.out.below.mono X0.out.size)).size; rw [fin4_size]; exact this) _).alloc (by have := (X0.out.trans (R4.out.below.mono X0.out.size)).size; simp [fin4_size]; omega) _)
      have := ints_lit ((fin4 w4 w.heap.size 6 s 1 (.slice (some ⟨w4.heap.size + 1, 0, none⟩) 1 1)).alloc (.cells #[.int .i64 6, .int .i64 s, .int .i64 1, .slice (some ⟨w4.heap.size + 1, 0, none⟩) 1 1] 24)) (z) w.heap.size (by simp [fin4_size]; omega)
      simpa [fin4_size, icells] using this)
    unfold fin4 at HF
    generalize (World.alloc _ (.cells #[.int .i64 (z)] 3)) = W at HF ⊢
    obtain ⟨d0, d1, d2, d3⟩ := cells4 HF.out.1
    refine bodyPost_ret (v := Rq.val ⟨6, s, 1, [z]⟩ (.slice (some ⟨w4.heap.size + 1, 0, none⟩) 1 1)) ?_ rfl HF.out.2
    simp [results, Tryd.results32, go_sem, d0, d1, d2, d3, Rq.val]
  by_cases h15 : f = 15
  · subst h15
    have HQ : Hid (q = ⟨15, s, z, takeF b p3 15 z⟩) := Lib.hid (by rw [HP.out]; simp)
    clear HP
    go_wp2_with fail
    obtain ⟨wa, hwa⟩ : ∃ x, x = w4.alloc (.cells #[.int .i64 15, .int .i64 s, .int .i64 z, .slice none 0 0] 24) := ⟨_, rfl⟩
    have RA : Hid (Rs wx r b p3 wa) := Lib.hid (by rw [hwa]; exact R4.out.on (below_new _ _))
    have BA : Hid (BoxR wa w.heap.size 0 0 0 (.slice none 0 0) ∧ BoxR wa w4.heap.size 15 s z (.slice none 0 0)) := Lib.hid (by rw [hwa]; exact ⟨B4.out.on (below_new _ _), heap_alloc_new w4 _⟩)
    have HR : Hid (w.heap.size < r ∧ r < w4.heap.size) := Lib.hid (by
      obtain ⟨vr, hr, _⟩ := R4.out
      exact ⟨Nat.lt_of_lt_of_le (lt_heap B0.out) hr.base, hr.lt⟩)
    rw [← hwa]
    clear hwa
    refine (takev_any wx wa r b p3 15 z RA.out HL.out).mono ?_
    rintro e w5 ⟨⟨v5, rfl, hv5⟩, hb5, ho5⟩
    obtain ⟨a5, c5, rfl⟩ := row_slice hv5
    have HSZ : Hid (w.heap.size < wa.heap.size ∧ w4.heap.size < wa.heap.size) := Lib.hid ⟨lt_heap BA.out.1, lt_heap BA.out.2⟩
    have V5 := Lib.hid hv5
    have X5 := Lib.hid (X0.out.trans (hb5.mono X0.out.size))
    have B5 : Hid (BoxR w5 w.heap.size 0 0 0 (.slice none 0 0) ∧ BoxR w5 w4.heap.size 15 s z (.slice none 0 0)) := Lib.hid ⟨(ho5.block _ (lt_heap BA.out.1) (by have := HR.out; omega)).trans BA.out.1, (ho5.block _ (lt_heap BA.out.2) (by have := HR.out; omega)).trans BA.out.2⟩
    clear hv5 hb5 ho5 c0 c1 c2 c3 g0' g1' g2' g3'
    generalize takeF b p3 15 z = vs at *
    obtain ⟨c0, c1, c2, c3⟩ := cells4 B5.out.1
    obtain ⟨e0, e1, e2, e3⟩ := cells4 B5.out.2
    have g0 : ∀ o, w5.frozen? ⟨w.heap.size, o, none⟩ = false := fun o => frozen_of_row _ _ _ _ _ B5.out.1
    have g1 : ∀ o, w5.frozen? ⟨w4.heap.size, o, none⟩ = false := fun o => frozen_of_row _ _ _ _ _ B5.out.2
    have g0' := g0 0
    have g1' := g0 1
    have g2' := g0 2
    have g3' := g0 3
    have k3' := g1 3
    have hne : w.heap.size ≠ w4.heap.size := by omega
    clear g0 g1
    go_wp2
    have HF : Hid (BoxR (fin4 (w5.setCell ⟨w4.heap.size, 3, none⟩ (.slice a5 vs.length c5)) w.heap.size 15 s z (.slice a5 vs.length c5)) w.heap.size 15 s z (.slice a5 vs.length c5) ∧ ParseIs w q (.returned (Rq.val ⟨15, s, z, vs⟩ (.slice a5 vs.length c5))) (fin4 (w5.setCell ⟨w4.heap.size, 3, none⟩ (.slice a5 vs.length c5)) w.heap.size 15 s z (.slice a5 vs.length c5))) := Lib.hid (by
      rw [HQ.out]
      have ho := Off.set (fun k => k = w4.heap.size) w5 ⟨w4.heap.size, 3, none⟩ (.slice a5 vs.length c5) rfl
      refine par_end (q := ⟨15, s, z, vs⟩) (fin4_box ((ho.block _ (lt_heap B5.out.1) hne).trans B5.out.1) _ _ _ _) ?_ (fin4_below (below_set X5.out (by have := HSZ.out; have := X5.out.size; omega) _ _ (Nat.le_of_lt hlt)) _ _ _ _)
      exact ownsRow_base (ownsRow_off (ownsRow_off V5.out ho (fun k e s => by have := (V5.out.lt k e).1; have := HSZ.out; omega)) (fin4_off _ _ _ _ _ _) (fun k e s => by have := (V5.out.lt k e).1; have := HSZ.out; omega)) (by have := HSZ.out; omega))
    unfold fin4 at HF
    generalize (World.setCell (World.setCell (World.setCell (World.setCell (World.setCell w5 _ _) _ _) _ _) _ _) _ _) = W at HF ⊢
    obtain ⟨d0, d1, d2, d3⟩ := cells4 HF.out.1
    refine bodyPost_ret (v := Rq.val ⟨15, s, z, vs⟩ (.slice a5 vs.length c5)) ?_ rfl HF.out.2
    simp [results, Tryd.results32, go_sem, d0, d1, d2, d3, Rq.val]
  by_cases h16 : f = 16
  · subst h16
    have HQ : Hid (q = ⟨16, s, z, takeF b p3 16 z⟩) := Lib.hid (by rw [HP.out]; simp)
    clear HP
    go_wp2_with fail
    obtain ⟨wa, hwa⟩ : ∃ x, x = w4.alloc (.cells #[.int .i64 16, .int .i64 s, .int .i64 z, .slice none 0 0] 24) := ⟨_, rfl⟩
    have RA : Hid (Rs wx r b p3 wa) := Lib.hid (by rw [hwa]; exact R4.out.on (below_new _ _))
    have BA : Hid (BoxR wa w.heap.size 0 0 0 (.slice none 0 0) ∧ BoxR wa w4.heap.size 16 s z (.slice none 0 0)) := Lib.hid (by rw [hwa]; exact ⟨B4.out.on (below_new _ _), heap_alloc_new w4 _⟩)
    have HR : Hid (w.heap.size < r ∧ r < w4.heap.size) := Lib.hid (by
      obtain ⟨vr, hr, _⟩ := R4.out
      exact ⟨Nat.lt_of_lt_of_le (lt_heap B0.out) hr.base, hr.lt⟩)
    rw [← hwa]
    clear hwa
    refine (takev_any wx wa r b p3 16 z RA.out HL.out).mono ?_
    rintro e w5 ⟨⟨v5, rfl, hv5⟩, hb5, ho5⟩
    obtain ⟨a5, c5, rfl⟩ := row_slice hv5
    have HSZ : Hid (w.heap.size < wa.heap.size ∧ w4.heap.size < wa.heap.size) := Lib.hid ⟨lt_heap BA.out.1, lt_heap BA.out.2⟩
    have V5 := Lib.hid hv5
    have X5 := Lib.hid (X0.out.trans (hb5.mono X0.out.size))
    have B5 : Hid (BoxR w5 w.heap.size 0 0 0 (.slice none 0 0) ∧ BoxR w5 w4.heap.size 16 s z (.slice none 0 0)) := Lib.hid ⟨(ho5.block _ (lt_heap BA.out.1) (by have := HR.out; omega)).trans BA.out.1, (ho5.block _ (lt_heap BA.out.2) (by have := HR.out; omega)).trans BA.out.2⟩
    clear hv5 hb5 ho5 c0 c1 c2 c3 g0' g1' g2' g3'
    generalize takeF b p3 16 z = vs at *
    obtain ⟨c0, c1, c2, c3⟩ := cells4 B5.out.1
    obtain ⟨e0, e1, e2, e3⟩ := cells4 B5.out.2
    have g0 : ∀ o, w5.frozen? ⟨w.heap.size, o, none⟩ = false := fun o => frozen_of_row _ _ _ _ _ B5.out.1
    have g1 : ∀ o, w5.frozen? ⟨w4.heap.size, o, none⟩ = false := fun o => frozen_of_row _ _ _ _ _ B5.out.2
    have g0' := g0 0
    have g1' := g0 1
    have g2' := g0 2
    have g3' := g0 3
    have k3' := g1 3
    have hne : w.heap.size ≠ w4.heap.size := by omega
    clear g0 g1
    go_wp2
    have HF : Hid (BoxR (fin4 (w5.setCell ⟨w4.heap.size, 3, none⟩ (.slice a5 vs.length c5)) w.heap.size 16 s z (.slice a5 vs.length c5)) w.heap.size 16 s z (.slice a5 vs.length c5) ∧ ParseIs w q (.returned (Rq.val ⟨16, s, z, vs⟩ (.slice a5 vs.length c5))) (fin4 (w5.setCell ⟨w4.heap.size, 3, none⟩ (.slice a5 vs.length c5)) w.heap.size 16 s z (.slice a5 vs.length c5))) := Lib.hid (by
      rw [HQ.out]
      have ho := Off.set (fun k => k = w4.heap.size) w5 ⟨w4.heap.size, 3, none⟩ (.slice a5 vs.length c5) rfl
      refine par_end (q := ⟨16, s, z, vs⟩) (fin4_box ((ho.block _ (lt_heap B5.out.1) hne).trans B5.out.1) _ _ _ _) ?_ (fin4_below (below_set X5.out (by have := HSZ.out; have := X5.out.size; omega) _ _ (Nat.le_of_lt hlt)) _ _ _ _)
      exact ownsRow_base (ownsRow_off (ownsRow_off V5.out ho (fun k e s => by have := (V5.out.lt k e).1; have := HSZ.out; omega)) (fin4_off _ _ _ _ _ _) (fun k e s => by have := (V5.out.lt k e).1; have := HSZ.out; omega)) (by have := HSZ.out; omega))
    unfold fin4 at HF
    generalize (World.setCell (World.setCell (World.setCell (World.setCell (World.setCell w5 _ _) _ _) _ _) _ _) _ _) = W at HF ⊢
    obtain ⟨d0, d1, d2, d3⟩ := cells4 HF.out.1
    refine bodyPost_ret (v := Rq.val ⟨16, s, z, vs⟩ (.slice a5 vs.length c5)) ?_ rfl HF.out.2
    simp [results, Tryd.results32, go_sem, d0, d1, d2, d3, Rq.val]
  have n5 : (f == 5) = false := by simpa using h5
  have n6 : (f == 6) = false := by simpa using h6
  have n15 : (f == 15) = false := by simpa using h15
  have n16 : (f == 16) = false := by simpa using h16
  have HQ : Hid (q = ⟨f, s, z, []⟩) := Lib.hid (by rw [HP.out, if_neg h5, if_neg h6, if_neg (by omega)])
  clear HP h5 h6 h15 h16
  go_wp2
  have HF : Hid (BoxR ((fin4 w4 w.heap.size f s z (.slice none 0 0)).alloc (.cells #[.int .i64 f, .int .i64 s, .int .i64 z, .slice none 0 0] 24)) w.heap.size f s z (.slice none 0 0) ∧ ParseIs w q (.returned (Rq.val ⟨f, s, z, []⟩ (.slice none 0 0))) ((fin4 w4 w.heap.size f s z (.slice none 0 0)).alloc (.cells #[.int .i64 f, .int .i64 s, .int .i64 z, .slice none 0 0] 24))) := Lib.hid (by
    rw [HQ.out]
    exact par_end (q := ⟨f, s, z, []⟩) ((fin4_box B4.out _ _ _ _).on (below_new _ _)) (World.ownsRow_nil _ _ _ _) ((fin4_below (X0.out.trans (R4.out.below.mono X0.out.size)) _ _ _ _).alloc (by have := (X0.out.trans (R4.out.below.mono X0.out.size)).size; rw [fin4_size]; exact this) _))
  unfold fin4 at HF
  generalize (World.alloc _ (.cells #[.int .i64 f, .int .i64 s, .int .i64 z, .slice none 0 0] 24)) = W at HF ⊢
  obtain ⟨d0, d1, d2, d3⟩ := cells4 HF.out.1
  refine bodyPost_ret (v := Rq.val ⟨f, s, z, []⟩ (.slice none 0 0)) ?_ rfl HF.out.2
  simp [results, Tryd.results32, go_sem, d0, d1, d2, d3, Rq.val]
end Go.Proofs.YtngfaailbkadfaaDoor
