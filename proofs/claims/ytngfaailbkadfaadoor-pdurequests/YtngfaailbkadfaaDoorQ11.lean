/- yardref7.Encode: what it answers to any other request. -/
import Derived.Test.YtngfaailbkadfaaDoorQ10
namespace Go.Proofs.YtngfaailbkadfaaDoor
open Go.RowKit Go.Extern.Stop Go.Stop Go.Extern

set_option maxRecDepth 100000 in
set_option maxHeartbeats 4000000 in
theorem renc_no (r : Rq) (v : Value) (w : World) (hv : IntsAt w v r.vs) (hm : r.may = false) (hl : r.vs.length ≤ 100000) : Calls Tryd.prog 8 #[.agg #[.int .i64 r.f, .int .i64 r.s, .int .i64 r.c, v]] w (RfNo w r.f (encCode r)) := by
  have HC : Hid (encCode r = if isFn r.f = true then 1 else 6) := Lib.hid rfl
  have HMM : Hid (mayB r.f r.s r.c r.vs = false) := Lib.hid hm
  generalize encCode r = ec at *
  obtain ⟨f, s, c, vs⟩ := r
  dsimp only at *
  have HV := Lib.hid hv
  have HL : Hid (vs.length ≤ 100000) := Lib.hid (by omega)
  obtain ⟨ao, cap, rfl, _⟩ := id hv
  obtain ⟨wx, hwx⟩ : ∃ wx, wx = (w.alloc (.cells #[.int .i64 f, .int .i64 s, .int .i64 c, .slice ao vs.length cap] 38)).alloc (.cells #[.int .i64 0, .slice none 0 0] 35) := ⟨_, rfl⟩
  have X0 : Hid (Below w.heap.size w wx) := Lib.hid (by rw [hwx]; exact two_belowW _ _ _)
  have Q0 : Hid (BoxQ wx w.heap.size f s c (.slice ao vs.length cap)) := Lib.hid (by
    rw [hwx]
    have h : BoxQ (w.alloc (.cells #[.int .i64 f, .int .i64 s, .int .i64 c, .slice ao vs.length cap] 38)) w.heap.size f s c (.slice ao vs.length cap) := heap_alloc_new w _
    exact h.on (below_new _ _))
  have B0 : Hid (BoxE wx (w.heap.size + 1) 0 (.slice none 0 0)) := Lib.hid (by
    rw [hwx]
    have h : (w.alloc (.cells #[.int .i64 f, .int .i64 s, .int .i64 c, .slice ao vs.length cap] 38)).heap.size = w.heap.size + 1 := by simp
    rw [← h]
    exact heap_alloc_new _ _)
  clear hv hm hl
  have HK : Hid (∀ (cc : Int) (g : Nat) (wa : World), Hid (ec = cc) → Hid (AtBox w wa (w.heap.size + 1) f cc g) → Hid (BoxE (fin2 wa (w.heap.size + 1) cc (.slice (some ⟨g, 0, none⟩) 1 1)) (w.heap.size + 1) cc (.slice (some ⟨g, 0, none⟩) 1 1) ∧ RfNo w f ec (.returned (.tuple #[.slice none 0 0, .agg #[.int .i64 cc, .slice (some ⟨g, 0, none⟩) 1 1]])) (fin2 wa (w.heap.size + 1) cc (.slice (some ⟨g, 0, none⟩) 1 1)))) := Lib.hid (fun cc g wa hc ha =>
    Lib.hid ⟨fin2_box ha.out.box _ _, g, by rw [hc.out], ha.out.steps.off (fin2_off _ _ _ _) ha.out.ne, fin2_below ha.out.below _ (by omega) _ _⟩)
  obtain ⟨c0, c1, c2, c3⟩ := Q0.out.cells
  rcases Bool.eq_false_or_eq_true (isFn f) with h1 | h1
  · have HC1 : Hid (ec = 1) := Lib.hid (by rw [HC.out, if_pos h1])
    have HI := Lib.hid h1
    clear h1 HC
    go_enter Tryd.func8, Tryd.ntmps8
    go_wp2_with fail
    rw [← hwx]
    clear hwx
    refine (known_any f wx).mono ?_
    rintro e w1 ⟨rfl, rfl⟩
    rw [HI.out]
    go_wp2_with fail
    refine (rmay_any f s c _ vs wx (HV.out.on X0.out) HL.out).mono ?_
    rintro e w2 ⟨rfl, hb⟩
    rw [HMM.out]
    have X2 := Lib.hid (X0.out.trans (hb.mono X0.out.size))
    have Q2 := Lib.hid (Q0.out.on hb)
    have B2 := Lib.hid (B0.out.on hb)
    clear hb c0 c1 c2 c3
    obtain ⟨c0, c1, c2, c3⟩ := Q2.out.cells
    go_wp2_with fail
    refine (mk_box f 1 w w2 _ B2.out X2.out).mono ?_
    rintro e wa ⟨g, rfl, HA⟩
    clear c0 c1 c2 c3
    obtain ⟨c0, c1, f0, f1⟩ := HA.out.box.cells
    have HF := HK.out 1 g wa HC1 HA
    unfold fin2 at HF
    go_wp2
    generalize (World.setCell (World.setCell wa _ _) _ _) = W at HF ⊢
    obtain ⟨d0, d1, _, _⟩ := HF.out.1.cells
    refine bodyPost_ret (v := .tuple #[.slice none 0 0, .agg #[.int .i64 1, .slice (some ⟨g, 0, none⟩) 1 1]]) ?_ rfl HF.out.2
    simp [results, Tryd.results8, go_sem, d0, d1]
  · have HC1 : Hid (ec = 6) := Lib.hid (by rw [HC.out, if_neg (by simp [h1])])
    have HI := Lib.hid h1
    clear h1 HC
    go_enter Tryd.func8, Tryd.ntmps8
    go_wp2_with fail
    rw [← hwx]
    clear hwx
    refine (known_any f wx).mono ?_
    rintro e w1 ⟨rfl, rfl⟩
    rw [HI.out]
    go_wp2_with fail
    refine (mk_box f 6 w wx _ B0.out X0.out).mono ?_
    rintro e wa ⟨g, rfl, HA⟩
    clear c0 c1 c2 c3
    obtain ⟨c0, c1, f0, f1⟩ := HA.out.box.cells
    have HF := HK.out 6 g wa HC1 HA
    unfold fin2 at HF
    go_wp2
    generalize (World.setCell (World.setCell wa _ _) _ _) = W at HF ⊢
    obtain ⟨d0, d1, _, _⟩ := HF.out.1.cells
    refine bodyPost_ret (v := .tuple #[.slice none 0 0, .agg #[.int .i64 6, .slice (some ⟨g, 0, none⟩) 1 1]]) ?_ rfl HF.out.2
    simp [results, Tryd.results8, go_sem, d0, d1]
end Go.Proofs.YtngfaailbkadfaaDoor
