/- yardref.At, yardref7's body for every valid request, yardref7.Encode: the document's answers. -/
import Derived.Test.YtngfaailbkadfaaDoorQ7
import Derived.Test.YtngfaailbkadfaaDoorQ3
import Derived.Test.YtngfaailbkadfaaDoorEnc
import Derived.Test.YtngfaailbkadfaaDoorSame
namespace Go.Proofs.YtngfaailbkadfaaDoor
open Go.RowKit Go.Extern.Stop Go.Stop Go.Extern

theorem mk_any (s : ByteArray) (p c : Int) (w : World) : Calls Tryd.prog 30 #[.string s, .int .i64 p, .int .i64 c] w fun e w' => (∃ g : Nat, e = .returned (.agg #[.int .i64 c, .slice (some ⟨g, 0, none⟩) 1 1]) ∧ StepsOwn w' (.slice (some ⟨g, 0, none⟩) 1 1) [(s, p)] ∧ w.heap.size < g) ∧ Below w.heap.size w w' := by
  go_enter Tryd.func30, Tryd.ntmps30
  go_wp2
  refine bodyPost_ret (v := .agg #[.int .i64 c, .slice (some ⟨w.heap.size + 1, 0, none⟩) 1 1]) ?_ rfl ⟨⟨w.heap.size + 1, rfl, ?_, by omega⟩, ?_⟩
  · simp [results, Tryd.results30, go_sem]
  · refine ⟨some ⟨w.heap.size + 1, 0, none⟩, 1, rfl, fun i hi => ?_⟩
    have hi0 : i = 0 := by simpa using hi
    subst hi0
    exact ⟨w.heap.size + 1, rfl, by simp, by simp, by simp⟩
  · exact two_belowW _ _ _

/-- An Err's box. -/
def BoxE (w : World) (k : Nat) (c : Int) (v : Value) : Prop := w.heap[k]? = some (.cells #[.int .i64 c, v] 35 (0, 0))
theorem BoxE.on {w w' : World} {k : Nat} {c : Int} {v : Value} (h : BoxE w k c v) (hb : Below w.heap.size w w') : BoxE w' k c v := (hb.block k (lt_heap h)).trans h
theorem BoxE.cells {w : World} {k : Nat} {c : Int} {v : Value} (h : BoxE w k c v) : w.cell? ⟨k, 0, none⟩ = some (.int .i64 c) ∧ w.cell? ⟨k, 1, none⟩ = some v ∧ w.frozen? ⟨k, 0, none⟩ = false ∧ w.frozen? ⟨k, 1, none⟩ = false :=
  ⟨by rw [cell_of_row _ _ _ _ _ _ h]; rfl, by rw [cell_of_row _ _ _ _ _ _ h]; rfl, frozen_of_row _ _ _ _ _ h, frozen_of_row _ _ _ _ _ h⟩
def fin2 (w4 : World) (k : Nat) (c : Int) (V : Value) : World := (w4.setCell ⟨k, 0, none⟩ (.int .i64 c)).setCell ⟨k, 1, none⟩ V
theorem fin2_below {w w4 : World} (h : Below w.heap.size w w4) (k : Nat) (hk : w.heap.size ≤ k) (c : Int) (V : Value) : Below w.heap.size w (fin2 w4 k c V) := (h.setCell hk _).setCell hk _
theorem fin2_box {w4 : World} {k : Nat} {c0 : Int} {V0 : Value} (h : BoxE w4 k c0 V0) (c : Int) (V : Value) : BoxE (fin2 w4 k c V) k c V := by
  unfold BoxE fin2
  rw [heap_set _ _ _ _ _ _ _ (heap_set _ _ _ _ _ _ _ h)]
  rfl
theorem fin2_off (w4 : World) (k : Nat) (c : Int) (V : Value) : Off (fun j => j = k) w4 (fin2 w4 k c V) := by
  unfold fin2
  exact Off.trans (Off.set (fun j => j = k) w4 ⟨k, 0, none⟩ _ rfl) (Off.set (fun j => j = k) _ ⟨k, 1, none⟩ _ rfl)
theorem StepsOwn.off {w w' : World} {g k : Nat} {x : ByteArray × Int} (h : StepsOwn w (.slice (some ⟨g, 0, none⟩) 1 1) [x]) (ho : Off (fun j => j = k) w w') (hg : g ≠ k) : StepsOwn w' (.slice (some ⟨g, 0, none⟩) 1 1) [x] := by
  obtain ⟨ao, cap, hv, h⟩ := h
  refine ⟨ao, cap, hv, fun i hi => ?_⟩
  obtain ⟨g', ha, hlt, h0, h1⟩ := h i hi
  simp only [Value.slice.injEq] at hv
  obtain ⟨e1, _, _⟩ := hv
  rw [ha] at e1
  obtain rfl : g = g' := by simpa using e1
  have hb : w'.heap[g]? = w.heap[g]? := ho.block g hlt hg
  have hc : ∀ o, w'.cell? ⟨g, o, none⟩ = w.cell? ⟨g, o, none⟩ := fun o => by simp only [World.cell?, hb]
  exact ⟨g, ha, Nat.lt_of_lt_of_le hlt ho.size, (hc _).trans h0, (hc _).trans h1⟩

def e0 : Value := .agg #[.int .i64 0, .slice none 0 0]
def RfOk (w : World) (l : List UInt8) (e : Ending) (w' : World) : Prop := ∃ v, e = .returned (.tuple #[v, e0]) ∧ w'.ownsRow w.heap.size 5 1 v l.length (bcells l) ∧ Below w.heap.size w w'
def RfNo (w : World) (x c : Int) (e : Ending) (w' : World) : Prop := ∃ g : Nat, e = .returned (.tuple #[.slice none 0 0, .agg #[.int .i64 c, .slice (some ⟨g, 0, none⟩) 1 1]]) ∧ StepsOwn w' (.slice (some ⟨g, 0, none⟩) 1 1) [(sPdu, x)] ∧ Below w.heap.size w w'

/-- What is known behind At, where a box stands. -/
structure AtBox (w wa : World) (k : Nat) (x c : Int) (g : Nat) : Prop where
  box : BoxE wa k 0 (.slice none 0 0)
  steps : StepsOwn wa (.slice (some ⟨g, 0, none⟩) 1 1) [(sPdu, x)]
  ne : g ≠ k
  below : Below w.heap.size w wa
theorem mk_box (x c : Int) (w w0 : World) (k : Nat) (hb : BoxE w0 k 0 (.slice none 0 0)) (hw : Below w.heap.size w w0) : Calls Tryd.prog 30 #[.string sPdu, .int .i64 x, .int .i64 c] w0 fun e wa => ∃ g : Nat, e = .returned (.agg #[.int .i64 c, .slice (some ⟨g, 0, none⟩) 1 1]) ∧ Hid (AtBox w wa k x c g) := by
  refine (mk_any sPdu x c w0).mono ?_
  rintro e wa ⟨⟨g, rfl, hs, hg⟩, hbl⟩
  exact ⟨g, rfl, Lib.hid ⟨hb.on hbl, hs, fun e => by have := lt_heap hb; omega, hw.trans (hbl.mono hw.size)⟩⟩


theorem body_any (r : Rq) (v : Value) (w : World) (hv : IntsAt w v r.vs) (hm : r.may = true) (hl : r.vs.length ≤ 3000) : Calls Tryd.prog 31 #[.agg #[.int .i64 r.f, .int .i64 r.s, .int .i64 r.c, v]] w (CopyIs w (encF r)) := by
  have hf : 1 ≤ r.f ∧ r.f ≤ 16 := f_ok hm
  have hk := kind_of hm
  obtain ⟨f, s, c, vs⟩ := r
  dsimp only at hv hl hf ⊢
  cases hk with
  | read h1 hc hc2 hs hvs => exact body_read f s c v vs w hv hf hl (by dsimp only at h1; omega)
  | bit h1 hc hs x hvs hb => exact body_bit f s c v vs w hv hf hl x (Lib.hid h1) (Lib.hid hvs) hb
  | reg h1 hc hs x hvs hb => exact body_reg f s c v vs w hv hf hl x (Lib.hid h1) (Lib.hid hvs)
  | many h1 hc hc1 hc2 hs hvs hd =>
    refine body_many f s c v vs w hv hf hl h1 hc1 (fun h => ?_)
    subst h
    rcases hvs with ⟨_, h⟩ | ⟨h, _⟩
    · exact h
    · exact absurd h (by show ¬ fTop 15 = 65535; decide)

set_option maxRecDepth 100000 in
set_option maxHeartbeats 4000000 in
theorem renc_ok (r : Rq) (v : Value) (w : World) (hv : IntsAt w v r.vs) (hm : r.may = true) (hl : r.vs.length ≤ 3000) : Calls Tryd.prog 8 #[.agg #[.int .i64 r.f, .int .i64 r.s, .int .i64 r.c, v]] w (RfOk w (encF r)) := by
  have HB : Hid (∀ W : World, IntsAt W v r.vs → Calls Tryd.prog 31 #[.agg #[.int .i64 r.f, .int .i64 r.s, .int .i64 r.c, v]] W (CopyIs W (encF r))) := Lib.hid (fun W h => body_any r v W h hm hl)
  have HI : Hid (isFn r.f = true) := Lib.hid (isFn_of hm)
  have HMM : Hid (mayB r.f r.s r.c r.vs = true) := Lib.hid hm
  generalize encF r = out at *
  obtain ⟨f, s, c, vs⟩ := r
  dsimp only at *
  have HV := Lib.hid hv
  have HL : Hid (vs.length ≤ 100000) := Lib.hid (by omega)
  obtain ⟨ao, cap, rfl, _⟩ := id hv
  obtain ⟨wx, hwx⟩ : ∃ wx, wx = (w.alloc (.cells #[.int .i64 f, .int .i64 s, .int .i64 c, .slice ao vs.length cap] 38)).alloc (.cells #[.int .i64 0, .slice none 0 0] 35) := ⟨_, rfl⟩
  have X0 : Hid (Below w.heap.size w wx) := Lib.hid (by rw [hwx]; exact two_belowW _ _ _)
  have Q0 : Hid (BoxQ wx w.heap.size f s c (.slice ao vs.length cap)) := Lib.hid (by
    rw [hwx]
    have h : BoxQ (w.alloc (.cells #[.int .i64 f, .int .i64 s, .int .i64 c, .slice ao vs.length cap] 38)) w.heap.size f s c (.slice ao vs.length cap) := heap_alloc_new w _
    exact h.on (below_new _ _))
  have B0 : Hid (BoxE wx (w.heap.size + 1) 0 (.slice none 0 0)) := Lib.hid (by
    rw [hwx]
    have h : (w.alloc (.cells #[.int .i64 f, .int .i64 s, .int .i64 c, .slice ao vs.length cap] 38)).heap.size = w.heap.size + 1 := by simp
    rw [← h]
    exact heap_alloc_new _ _)
  clear hv hm hl
  obtain ⟨c0, c1, c2, c3⟩ := Q0.out.cells
  go_enter Tryd.func8, Tryd.ntmps8
  go_wp2_with fail
  try rw [← hwx]
  clear hwx
  refine (known_any f wx).mono ?_
  rintro e w1 ⟨rfl, rfl⟩
  rw [HI.out]
  go_wp2_with fail
  refine (rmay_any f s c _ vs wx (HV.out.on X0.out) HL.out).mono ?_
  rintro e w2 ⟨rfl, hb⟩
  rw [HMM.out]
  have X2 := Lib.hid (X0.out.trans (hb.mono X0.out.size))
  have Q2 := Lib.hid (Q0.out.on hb)
  have B2 := Lib.hid (B0.out.on hb)
  clear hb c0 c1 c2 c3
  obtain ⟨c0, c1, c2, c3⟩ := Q2.out.cells
  go_wp2_with fail
  refine (HB.out w2 (HV.out.on X2.out)).mono ?_
  rintro e w3 ⟨x, rfl, hx, hb⟩
  have B3 := Lib.hid (B2.out.on hb)
  have X3 := Lib.hid (X2.out.trans (hb.mono X2.out.size))
  have K3 : Hid (w.heap.size + 1 < w2.heap.size) := Lib.hid (lt_heap B2.out)
  obtain ⟨d0, d1, f0, f1⟩ := B3.out.cells
  have HF : Hid (BoxE (fin2 w3 (w.heap.size + 1) 0 (.slice none 0 0)) (w.heap.size + 1) 0 (.slice none 0 0) ∧ RfOk w out (.returned (.tuple #[x, e0])) (fin2 w3 (w.heap.size + 1) 0 (.slice none 0 0))) := Lib.hid ⟨fin2_box B3.out _ _, x, rfl, ownsRow_base (ownsRow_off hx (fin2_off _ _ _ _) (fun j hj e => by have := (hx.lt j hj).1; have := K3.out; omega)) X2.out.size, fin2_below X3.out _ (by omega) _ _⟩
  clear hx hb c0 c1 c2 c3
  unfold fin2 at HF
  go_wp2
  generalize (World.setCell (World.setCell w3 _ _) _ _) = W at HF ⊢
  obtain ⟨d0, d1, _, _⟩ := HF.out.1.cells
  refine bodyPost_ret (v := .tuple #[x, e0]) ?_ rfl HF.out.2
  simp [results, Tryd.results8, go_sem, d0, d1, e0]

end Go.Proofs.YtngfaailbkadfaaDoor
/- yardref7.Encode: what it answers to any other request. -/
namespace Go.Proofs.YtngfaailbkadfaaDoor
open Go.RowKit Go.Extern.Stop Go.Stop Go.Extern

set_option maxRecDepth 100000 in
set_option maxHeartbeats 4000000 in
theorem renc_no (r : Rq) (v : Value) (w : World) (hv : IntsAt w v r.vs) (hm : r.may = false) (hl : r.vs.length ≤ 100000) : Calls Tryd.prog 8 #[.agg #[.int .i64 r.f, .int .i64 r.s, .int .i64 r.c, v]] w (RfNo w r.f (encCode r)) := by
  have HC : Hid (encCode r = if isFn r.f = true then 1 else 6) := Lib.hid rfl
  have HMM : Hid (mayB r.f r.s r.c r.vs = false) := Lib.hid hm
  generalize encCode r = ec at *
  obtain ⟨f, s, c, vs⟩ := r
  dsimp only at *
  have HV := Lib.hid hv
  have HL : Hid (vs.length ≤ 100000) := Lib.hid (by omega)
  obtain ⟨ao, cap, rfl, _⟩ := id hv
  obtain ⟨wx, hwx⟩ : ∃ wx, wx = (w.alloc (.cells #[.int .i64 f, .int .i64 s, .int .i64 c, .slice ao vs.length cap] 38)).alloc (.cells #[.int .i64 0, .slice none 0 0] 35) := ⟨_, rfl⟩
  have X0 : Hid (Below w.heap.size w wx) := Lib.hid (by rw [hwx]; exact two_belowW _ _ _)
  have Q0 : Hid (BoxQ wx w.heap.size f s c (.slice ao vs.length cap)) := Lib.hid (by
    rw [hwx]
    have h : BoxQ (w.alloc (.cells #[.int .i64 f, .int .i64 s, .int .i64 c, .slice ao vs.length cap] 38)) w.heap.size f s c (.slice ao vs.length cap) := heap_alloc_new w _
    exact h.on (below_new _ _))
  have B0 : Hid (BoxE wx (w.heap.size + 1) 0 (.slice none 0 0)) := Lib.hid (by
    rw [hwx]
    have h : (w.alloc (.cells #[.int .i64 f, .int .i64 s, .int .i64 c, .slice ao vs.length cap] 38)).heap.size = w.heap.size + 1 := by simp
    rw [← h]
    exact heap_alloc_new _ _)
  clear hv hm hl
  have HK : Hid (∀ (cc : Int) (g : Nat) (wa : World), Hid (ec = cc) → Hid (AtBox w wa (w.heap.size + 1) f cc g) → Hid (BoxE (fin2 wa (w.heap.size + 1) cc (.slice (some ⟨g, 0, none⟩) 1 1)) (w.heap.size + 1) cc (.slice (some ⟨g, 0, none⟩) 1 1) ∧ RfNo w f ec (.returned (.tuple #[.slice none 0 0, .agg #[.int .i64 cc, .slice (some ⟨g, 0, none⟩) 1 1]])) (fin2 wa (w.heap.size + 1) cc (.slice (some ⟨g, 0, none⟩) 1 1)))) := Lib.hid (fun cc g wa hc ha =>
    Lib.hid ⟨fin2_box ha.out.box _ _, g, by rw [hc.out], ha.out.steps.off (fin2_off _ _ _ _) ha.out.ne, fin2_below ha.out.below _ (by omega) _ _⟩)
  obtain ⟨c0, c1, c2, c3⟩ := Q0.out.cells
  rcases Bool.eq_false_or_eq_true (isFn f) with h1 | h1
  · have HC1 : Hid (ec = 1) := Lib.hid (by rw [HC.out, if_pos h1])
    have HI := Lib.hid h1
    clear h1 HC
    go_enter Tryd.func8, Tryd.ntmps8
    go_wp2_with fail
    rw [← hwx]
    clear hwx
    refine (known_any f wx).mono ?_
    rintro e w1 ⟨rfl, rfl⟩
    rw [HI.out]
    go_wp2_with fail
    refine (rmay_any f s c _ vs wx (HV.out.on X0.out) HL.out).mono ?_
    rintro e w2 ⟨rfl, hb⟩
    rw [HMM.out]
    have X2 := Lib.hid (X0.out.trans (hb.mono X0.out.size))
    have Q2 := Lib.hid (Q0.out.on hb)
    have B2 := Lib.hid (B0.out.on hb)
    clear hb c0 c1 c2 c3
    obtain ⟨c0, c1, c2, c3⟩ := Q2.out.cells
    go_wp2_with fail
    refine (mk_box f 1 w w2 _ B2.out X2.out).mono ?_
    rintro e wa ⟨g, rfl, HA⟩
    clear c0 c1 c2 c3
    obtain ⟨c0, c1, f0, f1⟩ := HA.out.box.cells
    have HF := HK.out 1 g wa HC1 HA
    unfold fin2 at HF
    go_wp2
    generalize (World.setCell (World.setCell wa _ _) _ _) = W at HF ⊢
    obtain ⟨d0, d1, _, _⟩ := HF.out.1.cells
    refine bodyPost_ret (v := .tuple #[.slice none 0 0, .agg #[.int .i64 1, .slice (some ⟨g, 0, none⟩) 1 1]]) ?_ rfl HF.out.2
    simp [results, Tryd.results8, go_sem, d0, d1]
  · have HC1 : Hid (ec = 6) := Lib.hid (by rw [HC.out, if_neg (by simp [h1])])
    have HI := Lib.hid h1
    clear h1 HC
    go_enter Tryd.func8, Tryd.ntmps8
    go_wp2_with fail
    rw [← hwx]
    clear hwx
    refine (known_any f wx).mono ?_
    rintro e w1 ⟨rfl, rfl⟩
    rw [HI.out]
    go_wp2_with fail
    refine (mk_box f 6 w wx _ B0.out X0.out).mono ?_
    rintro e wa ⟨g, rfl, HA⟩
    clear c0 c1 c2 c3
    obtain ⟨c0, c1, f0, f1⟩ := HA.out.box.cells
    have HF := HK.out 6 g wa HC1 HA
    unfold fin2 at HF
    go_wp2
    generalize (World.setCell (World.setCell wa _ _) _ _) = W at HF ⊢
    obtain ⟨d0, d1, _, _⟩ := HF.out.1.cells
    refine bodyPost_ret (v := .tuple #[.slice none 0 0, .agg #[.int .i64 6, .slice (some ⟨g, 0, none⟩) 1 1]]) ?_ rfl HF.out.2
    simp [results, Tryd.results8, go_sem, d0, d1]
end Go.Proofs.YtngfaailbkadfaaDoor
