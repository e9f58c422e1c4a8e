/- yardref2.Reader's fail, take, U, I, B1, Bytes and Done, and yardref2.num: the document's own answers, for every row of bytes, every place and every count. -/
import Derived.Test.YtpdngcjgfngnjaaDoorRefW2
import Derived.Deep.RegionLaw
namespace Go.Proofs.YtpdngcjgfngnjaaDoor
open Go.RowKit Go.Extern.Stop Go.Stop Go.Extern

/-- The document's Reader: over the bytes that came in, and where it stands. -/
structure XrAt (w W : World) (xb : Nat) (bv : Value) (l : List UInt8) (p : Nat) : Prop where
  base : w.heap.size ≤ xb
  le : p ≤ l.length
  len : l.length ≤ 20000
  obj : W.heap[xb]? = some (.cells #[bv, .int .i64 (p : Int)] 31 (0, 0))
  by_ : BytesAt w bv l
  capd : ∃ ao cap, bv = .slice ao l.length cap ∧ l.length ≤ cap
  below : Below w.heap.size w W
theorem XrAt.lt {w W : World} {xb : Nat} {bv : Value} {l : List UInt8} {p : Nat} (h : XrAt w W xb bv l p) : xb < W.heap.size := lt_heap h.obj
theorem XrAt.on {w W W' : World} {xb : Nat} {bv : Value} {l : List UInt8} {p : Nat} (h : XrAt w W xb bv l p) (hb : Below W.heap.size W W') : XrAt w W' xb bv l p := ⟨h.base, h.le, h.len, keep_on hb h.obj, h.by_, h.capd, h.below.trans (hb.mono h.below.size)⟩
theorem XrAt.off {w W W' : World} {S : Nat → Prop} {xb : Nat} {bv : Value} {l : List UInt8} {p : Nat} (h : XrAt w W xb bv l p) (hk : Off S W W') (hx : ¬ S xb) (hs : ∀ k, S k → w.heap.size ≤ k) : XrAt w W' xb bv l p := ⟨h.base, h.le, h.len, (hk.block xb h.lt hx).trans h.obj, h.by_, h.capd, h.below.trans (hk.below h.below.size hs)⟩
theorem XrAt.move {w W : World} {xb : Nat} {bv : Value} {l : List UInt8} {p q : Nat} (h : XrAt w W xb bv l p) (hq : q ≤ l.length) : XrAt w (W.setCell ⟨xb, 1, none⟩ (.int .i64 (q : Int))) xb bv l q :=
  ⟨h.base, hq, h.len, by rw [heap_set _ _ _ _ _ _ _ h.obj]; rfl, h.by_, h.capd, h.below.trans ((Off.set (fun k => k = xb) W ⟨xb, 1, none⟩ _ rfl).below h.below.size (fun k e => by subst e; exact h.base))⟩
theorem XrAt.bytes {w W : World} {xb : Nat} {bv : Value} {l : List UInt8} {p : Nat} (h : XrAt w W xb bv l p) : ∃ ao cap, bv = .slice ao l.length cap := by
  obtain ⟨ao, cap, hv, _⟩ := h.by_
  exact ⟨ao, cap, hv⟩
theorem XrAt.cells {w W : World} {xb : Nat} {bv : Value} {l : List UInt8} {p : Nat} (h : XrAt w W xb bv l p) : W.cell? ⟨xb, 0, none⟩ = some bv ∧ W.cell? ⟨xb, 1, none⟩ = some (.int .i64 (p : Int)) ∧ W.frozen? ⟨xb, 0, none⟩ = false ∧ W.frozen? ⟨xb, 1, none⟩ = false := cell2 h.obj

set_option maxRecDepth 100000 in
set_option maxHeartbeats 1000000 in
theorem rfail_any (xb : Nat) (bv : Value) (l : List UInt8) (p : Nat) (c : Int) (w0 w : World) (h : XrAt w0 w xb bv l p) :
    Calls Tryd.prog 45 #[.pointer (some ⟨xb, 0, none⟩), .int .i64 c] w (DocErr w p c) := by
  have HB0 : Hid (Below w.heap.size w (w.alloc (.cells #[.int .i64 0, .slice none 0 0] 37))) := Lib.hid (below_new _ _)
  obtain ⟨c0, c1, _, _⟩ := (h.on HB0.out).cells
  have HRB : Hid ((w.alloc (.cells #[.int .i64 0, .slice none 0 0] 37)).heap[w.heap.size]? = some (.cells #[.int .i64 0, .slice none 0 0] 37 (0, 0))) := Lib.hid (heap_alloc_new w _)
  clear h
  go_enter Tryd.func45, Tryd.ntmps45
  go_wp2_with fail
  generalize w.alloc (.cells #[.int .i64 0, .slice none 0 0] 37) = wa at *
  refine (at_any sWire p c wa).mono ?_
  rintro e w1 ⟨⟨g, rfl, hst⟩, hb⟩
  have HB1 := Lib.hid hb
  have hres := keep_on hb HRB.out
  obtain ⟨r0, r1, g0, g1⟩ := cell2 hres
  have e0 : ((w1.setCell ⟨w.heap.size, 0, none⟩ (.int .i64 c)).setCell ⟨w.heap.size, 1, none⟩ (.slice (some ⟨g, 0, none⟩) 1 1)).cell? ⟨w.heap.size, 0, none⟩ = some (.int .i64 c) := by
    rw [World.cell?_setCell_other _ _ _ _ (by simp)]
    exact World.cell?_setCell_same _ _ _ r0
  have e1 : ((w1.setCell ⟨w.heap.size, 0, none⟩ (.int .i64 c)).setCell ⟨w.heap.size, 1, none⟩ (.slice (some ⟨g, 0, none⟩) 1 1)).cell? ⟨w.heap.size, 1, none⟩ = some (.slice (some ⟨g, 0, none⟩) 1 1) :=
    World.cell?_setCell_same (u := .slice none 0 0) _ _ _ (by rw [World.cell?_setCell_other _ _ _ _ (by simp)]; exact r1)
  have HS2 := Lib.hid (stepsOwn_set (j := 1) (u := .slice (some ⟨g, 0, none⟩) 1 1) (n := c) (stepsOwn_set (j := 0) (u := .int .i64 c) hst r0) (World.cell?_setCell_same _ _ _ r0))
  clear hst hb hres c0 c1
  go_wp2
  refine bodyPost_ret (v := .agg #[.int .i64 c, .slice (some ⟨g, 0, none⟩) 1 1]) ?_ rfl ⟨g, rfl, HS2.out, ((HB0.out.trans (HB1.out.mono HB0.out.size)).setCell (Nat.le_refl _) _).setCell (Nat.le_refl _) _⟩
  simp [results, Tryd.results45, go_sem, e0, e1]

theorem cut_at {W : World} {bb off cap n p : Nat} {l : List UInt8} {k : Nat} (h : BytesAt W (.slice (some ⟨bb, off, none⟩) k cap) l) (hn : p + n ≤ l.length) : BytesAt W (.slice (some ⟨bb, off + p, none⟩) n (cap - p)) ((l.drop p).take n) := by
  have hl := cut_length l p n hn
  refine ⟨some ⟨bb, off + p, none⟩, cap - p, by rw [hl], fun i hi => ?_⟩
  rw [hl] at hi
  obtain ⟨b', off', e, hc⟩ := h.at' (p + i) (by omega)
  cases e
  refine ⟨bb, off + p, rfl, ?_⟩
  rw [Nat.add_assoc, hc]
  simp
/-- The block of a result that holds the document's error. -/
def Fb0 (W : World) (fb : Nat) (c : Int) (s : Value) : Prop := W.heap[fb]? = some (.cells #[.int .i64 c, s] 37 (0, 0))
/-- A value beside the document's error. -/
def DocBad (w : World) (p : Nat) (c : Int) (z : Value) (e : Ending) (w' : World) : Prop := ∃ g : Nat, e = .returned (.tuple #[z, .agg #[.int .i64 c, .slice (some ⟨g, 0, none⟩) 1 1]]) ∧ StepsOwn w' (.slice (some ⟨g, 0, none⟩) 1 1) [(sWire, (p : Int))] ∧ Below w.heap.size w w'
/-- the block of a result that holds the document's error: two stores into it. -/
theorem res_cells {W : World} {rb : Nat} {c c' : Int} {s s' : Value} (h : Fb0 W rb c s) : ((W.setCell ⟨rb, 0, none⟩ (.int .i64 c')).setCell ⟨rb, 1, none⟩ s').cell? ⟨rb, 0, none⟩ = some (.int .i64 c') ∧ ((W.setCell ⟨rb, 0, none⟩ (.int .i64 c')).setCell ⟨rb, 1, none⟩ s').cell? ⟨rb, 1, none⟩ = some s' := by
  obtain ⟨r0, r1, _, _⟩ := cell2 h
  refine ⟨?_, World.cell?_setCell_same (u := s) _ _ _ (by rw [World.cell?_setCell_other _ _ _ _ (by simp)]; exact r1)⟩
  rw [World.cell?_setCell_other _ _ _ _ (by simp)]
  exact World.cell?_setCell_same _ _ _ r0
theorem res_steps {W : World} {rb g p : Nat} {c c' : Int} {s s' : Value} (h : Fb0 W rb c s) (hst : StepsOwn W (.slice (some ⟨g, 0, none⟩) 1 1) [(sWire, (p : Int))]) : StepsOwn ((W.setCell ⟨rb, 0, none⟩ (.int .i64 c')).setCell ⟨rb, 1, none⟩ s') (.slice (some ⟨g, 0, none⟩) 1 1) [(sWire, (p : Int))] := by
  obtain ⟨r0, _⟩ := cell2 h
  exact stepsOwn_set (n := c') (stepsOwn_set hst r0) (World.cell?_setCell_same _ _ _ r0)

set_option maxRecDepth 100000 in
set_option maxHeartbeats 2000000 in
theorem rtake_short (xb : Nat) (bv : Value) (l : List UInt8) (p : Nat) (n : Int) (w0 w : World) (h : XrAt w0 w xb bv l p) (hn : ((l.length - p : Nat) : Int) < n) :
    Calls Tryd.prog 46 #[.pointer (some ⟨xb, 0, none⟩), .int .i64 n] w (DocBad w p 2 (.slice none 0 0)) := by
  have HB0 : Hid (Below w.heap.size w (w.alloc (.cells #[.int .i64 0, .slice none 0 0] 37))) := Lib.hid (below_new _ _)
  have H0 := Lib.hid (h.on HB0.out)
  have hle := h.le
  have hlen := h.len
  obtain ⟨c0, c1, _, _⟩ := H0.out.cells
  obtain ⟨ao, cap, rfl⟩ := h.bytes
  have HRB : Hid (Fb0 (w.alloc (.cells #[.int .i64 0, .slice none 0 0] 37)) w.heap.size 0 (.slice none 0 0)) := Lib.hid (heap_alloc_new w _)
  clear h
  go_enter Tryd.func46, Tryd.ntmps46
  go_wp2_with fail
  generalize w.alloc (.cells #[.int .i64 0, .slice none 0 0] 37) = wa at *
  go_quiet (fail)
  go_wp2_with fail
  refine (rfail_any xb _ l p 2 w0 _ (H0.out.on (below_drew wa nq))).mono ?_
  rintro e w1 ⟨g, rfl, hst, hb⟩
  have HB1 : Hid (Below wa.heap.size wa w1) := Lib.hid ((below_drew wa nq).trans hb)
  have hres : Fb0 w1 w.heap.size 0 (.slice none 0 0) := keep_on HB1.out HRB.out
  obtain ⟨r0, r1, g0, g1⟩ := cell2 hres
  obtain ⟨e0, e1⟩ := res_cells (c' := 2) (s' := .slice (some ⟨g, 0, none⟩) 1 1) hres
  have HS2 := Lib.hid (res_steps (c' := 2) (s' := .slice (some ⟨g, 0, none⟩) 1 1) hres hst)
  clear hst hb hres c0 c1
  go_wp2
  refine bodyPost_ret (v := .tuple #[.slice none 0 0, .agg #[.int .i64 2, .slice (some ⟨g, 0, none⟩) 1 1]]) ?_ rfl ⟨g, rfl, HS2.out, ((HB0.out.trans (HB1.out.mono HB0.out.size)).setCell (Nat.le_refl _) _).setCell (Nat.le_refl _) _⟩
  simp [results, Tryd.results46, go_sem, e0, e1]

theorem take_fin {w0 w w5 : World} {xb : Nat} {bv x : Value} {l : List UInt8} {p n : Nat} {xs : List Value} (H5 : XrAt w0 w5 xb bv l p) (hn : p + n ≤ l.length) (hr : Fb0 w5 w.heap.size 0 (.slice none 0 0)) (hw : Below w.heap.size w w5) (hxl : xb < w.heap.size) (ho : w5.ownsRow w.heap.size 5 1 x n xs) (hbase : w0.heap.size ≤ w.heap.size) :
    (((w5.setCell ⟨xb, 1, none⟩ (.int .i64 ((p : Int) + (n : Int)))).setCell ⟨w.heap.size, 0, none⟩ (.int .i64 0)).setCell ⟨w.heap.size, 1, none⟩ (.slice none 0 0)).ownsRow w.heap.size 5 1 x n xs ∧
    XrAt w0 (((w5.setCell ⟨xb, 1, none⟩ (.int .i64 ((p : Int) + (n : Int)))).setCell ⟨w.heap.size, 0, none⟩ (.int .i64 0)).setCell ⟨w.heap.size, 1, none⟩ (.slice none 0 0)) xb bv l (p + n) ∧
    Off (fun k => k = xb) w (((w5.setCell ⟨xb, 1, none⟩ (.int .i64 ((p : Int) + (n : Int)))).setCell ⟨w.heap.size, 0, none⟩ (.int .i64 0)).setCell ⟨w.heap.size, 1, none⟩ (.slice none 0 0)) ∧
    (((w5.setCell ⟨xb, 1, none⟩ (.int .i64 ((p : Int) + (n : Int)))).setCell ⟨w.heap.size, 0, none⟩ (.int .i64 0)).setCell ⟨w.heap.size, 1, none⟩ (.slice none 0 0)).cell? ⟨w.heap.size, 0, none⟩ = some (.int .i64 0) ∧
    (((w5.setCell ⟨xb, 1, none⟩ (.int .i64 ((p : Int) + (n : Int)))).setCell ⟨w.heap.size, 0, none⟩ (.int .i64 0)).setCell ⟨w.heap.size, 1, none⟩ (.slice none 0 0)).cell? ⟨w.heap.size, 1, none⟩ = some (.slice none 0 0) := by
  have hM := H5.move (q := p + n) hn
  rw [show ((p + n : Nat) : Int) = (p : Int) + (n : Int) by omega] at hM
  have k1 : Off (fun k => k = xb) w5 (w5.setCell ⟨xb, 1, none⟩ (.int .i64 ((p : Int) + (n : Int)))) := Off.set (fun k => k = xb) w5 ⟨xb, 1, none⟩ _ rfl
  have hr1 : Fb0 (w5.setCell ⟨xb, 1, none⟩ (.int .i64 ((p : Int) + (n : Int)))) w.heap.size 0 (.slice none 0 0) := (Below.heap_setCell _ _ _ _ (show w.heap.size ≠ xb by omega)).trans hr
  generalize w5.setCell ⟨xb, 1, none⟩ (.int .i64 ((p : Int) + (n : Int))) = w6 at *
  have k2 : Off (fun k => k = w.heap.size) w6 ((w6.setCell ⟨w.heap.size, 0, none⟩ (.int .i64 0)).setCell ⟨w.heap.size, 1, none⟩ (.slice none 0 0)) := (Off.set (fun k => k = w.heap.size) w6 ⟨w.heap.size, 0, none⟩ _ rfl).trans (Off.set _ _ ⟨w.heap.size, 1, none⟩ _ rfl)
  have ho6 := ownsRow_off ho k1 (fun k hk e => by subst e; exact row_no ho H5.obj (by decide) hk)
  refine ⟨ownsRow_off ho6 k2 (fun k hk e => by subst e; exact row_no ho6 hr1 (by decide) hk), hM.off k2 (show ¬ xb = w.heap.size by omega) (fun k e => by subst e; exact hbase), ?_, res_cells hr1⟩
  exact ⟨k2.os.trans (k1.os.trans hw.os), k2.tape.trans (k1.tape.trans hw.tape), k2.output.trans (k1.output.trans hw.output), Nat.le_trans hw.size (Nat.le_trans k1.size k2.size), fun k hk hx => (k2.block k (Nat.lt_of_lt_of_le hk (Nat.le_trans hw.size k1.size)) (show ¬ k = w.heap.size by omega)).trans ((k1.block k (Nat.lt_of_lt_of_le hk hw.size) hx).trans (hw.block k hk))⟩

set_option maxRecDepth 100000 in
set_option maxHeartbeats 4000000 in
theorem rtake_ok (xb : Nat) (bv : Value) (l : List UInt8) (p n : Nat) (w0 w : World) (h : XrAt w0 w xb bv l p) (hn : p + n ≤ l.length) :
    Calls Tryd.prog 46 #[.pointer (some ⟨xb, 0, none⟩), .int .i64 (n : Int)] w fun e w' => (∃ x, e = .returned (.tuple #[x, .agg #[.int .i64 0, .slice none 0 0]]) ∧ w'.ownsRow w.heap.size 5 1 x n (bcells ((l.drop p).take n))) ∧ XrAt w0 w' xb bv l (p + n) ∧ Off (fun k => k = xb) w w' := by
  have HB0 : Hid (Below w.heap.size w (w.alloc (.cells #[.int .i64 0, .slice none 0 0] 37))) := Lib.hid (below_new _ _)
  have H0 := Lib.hid (h.on HB0.out)
  have hle := h.le
  have hlen := h.len
  have HN := Lib.hid hn
  have hxl : xb < w.heap.size := h.lt
  obtain ⟨c0, c1, c2, c3⟩ := H0.out.cells
  have HBB := Lib.hid h.by_
  obtain ⟨ao, cap, hbv, hcap⟩ := h.capd
  subst hbv
  have HRB : Hid (Fb0 (w.alloc (.cells #[.int .i64 0, .slice none 0 0] 37)) w.heap.size 0 (.slice none 0 0)) := Lib.hid (heap_alloc_new w _)
  have hxne : xb ≠ w.heap.size := by omega
  have hw0s : w0.heap.size ≤ w.heap.size := h.below.size
  clear h
  cases ao with
  | none =>
    have hl0 : l.length = 0 := by
      rcases Nat.eq_zero_or_pos l.length with h0 | h0
      · exact h0
      · obtain ⟨_, _, e, _⟩ := HBB.out.at' 0 h0
        cases e
    obtain rfl : l = [] := List.length_eq_zero_iff.1 hl0
    obtain rfl : p = 0 := by simpa using hle
    obtain rfl : n = 0 := by simpa using hn
    have hw0 : IntKind.i64.wrap 0 = 0 := by decide
    by_cases hcp : cap = 0
    · subst hcp
      go_enter Tryd.func46, Tryd.ntmps46
      go_wp2_with fail
      generalize w.alloc (.cells #[.int .i64 0, .slice none 0 0] 37) = wa at *
      go_quiet (fail)
      go_wp2
      obtain ⟨wb, hwb⟩ : ∃ x, x = wa.drewN nq := ⟨_, rfl⟩
      have H1 : Hid (XrAt w0 wb xb _ _ _) := Lib.hid (by rw [hwb]; exact H0.out.on (below_drew wa nq))
      have HR1 : Hid (Fb0 wb w.heap.size 0 (.slice none 0 0)) := Lib.hid (by rw [hwb]; exact keep_on (below_drew wa nq) HRB.out)
      have HBW : Hid (Below w.heap.size w wb) := Lib.hid (by rw [hwb]; exact HB0.out.trans ((below_drew wa nq).mono HB0.out.size))
      rw [← hwb]
      clear hwb c0 c1 c2 c3
      obtain ⟨c0, c1, c2, c3⟩ := H1.out.cells
      have HBC : Hid (Below w0.heap.size w0 wb.drew) := Lib.hid H1.out.below.drew
      go_region_law ((go_simp; go_at_call 13; refine (copy_any _ ((([] : List UInt8).drop 0).take 0) wb.drew (bytes_nil _ _ _) ?_).mono ?_; (rw [cut_length _ _ _ HN.out]; omega); rintro e w5 ⟨vo, rfl, ho, hb5⟩; have hb5' : Below wb.heap.size wb w5 := (Below.refl wb.heap.size wb).drew.trans hb5; have H5 := Lib.hid (H1.out.on hb5'); obtain ⟨q0, q1, q2, q3⟩ := H5.out.cells; rw [cut_length _ _ _ HN.out] at ho; obtain ⟨av, cv, rfl⟩ := row_form ho; simp only []))
      all_goals
        have HO5 := Lib.hid ho
        have HR5 : Hid (Fb0 w5 w.heap.size 0 (.slice none 0 0)) := Lib.hid (keep_on hb5' HR1.out)
        have HBW5 : Hid (Below w.heap.size w w5) := Lib.hid (HBW.out.trans (hb5'.mono HBW.out.size))
        have hbase : wb.heap.size ≤ wb.drew.heap.size := Nat.le_refl _
        have HOB := Lib.hid (ownsRow_base HO5.out (Nat.le_trans HBW.out.size hbase))
        clear c0 c1 c2 c3 ho hb5 hb5' hbase
        obtain ⟨r0, r1, g0, g1⟩ := cell2 HR5.out
        have HT := Lib.hid (take_fin H5.out HN.out HR5.out HBW5.out hxl HOB.out hw0s)
        have e0 : (((w5.setCell ⟨xb, 1, none⟩ (.int .i64 0)).setCell ⟨w.heap.size, 0, none⟩ (.int .i64 0)).setCell ⟨w.heap.size, 1, none⟩ (.slice none 0 0)).cell? ⟨w.heap.size, 0, none⟩ = some (.int .i64 0) := HT.out.2.2.2.1
        have e1 : (((w5.setCell ⟨xb, 1, none⟩ (.int .i64 0)).setCell ⟨w.heap.size, 0, none⟩ (.int .i64 0)).setCell ⟨w.heap.size, 1, none⟩ (.slice none 0 0)).cell? ⟨w.heap.size, 1, none⟩ = some (.slice none 0 0) := HT.out.2.2.2.2
        clear HO5 HR1 HRB
        go_wp2
        refine bodyPost_ret (v := .tuple #[.slice av 0 cv, .agg #[.int .i64 0, .slice none 0 0]]) ?_ rfl ⟨⟨_, rfl, HT.out.1⟩, HT.out.2.1, HT.out.2.2.1⟩
        simp [results, Tryd.results46, go_sem, e0, e1]
    · have b2 : (0 : Int) ≤ (cap : Int) := by omega
      go_enter Tryd.func46, Tryd.ntmps46
      go_wp2_with fail
      generalize w.alloc (.cells #[.int .i64 0, .slice none 0 0] 37) = wa at *
      go_quiet (fail)
      go_wp2
      obtain ⟨wb, hwb⟩ : ∃ x, x = wa.drewN nq := ⟨_, rfl⟩
      have H1 : Hid (XrAt w0 wb xb _ _ _) := Lib.hid (by rw [hwb]; exact H0.out.on (below_drew wa nq))
      have HR1 : Hid (Fb0 wb w.heap.size 0 (.slice none 0 0)) := Lib.hid (by rw [hwb]; exact keep_on (below_drew wa nq) HRB.out)
      have HBW : Hid (Below w.heap.size w wb) := Lib.hid (by rw [hwb]; exact HB0.out.trans ((below_drew wa nq).mono HB0.out.size))
      rw [← hwb]
      clear hwb c0 c1 c2 c3
      obtain ⟨c0, c1, c2, c3⟩ := H1.out.cells
      have HBC : Hid (Below w0.heap.size w0 wb.drew) := Lib.hid H1.out.below.drew
      go_region_law ((go_simp; go_at_call 13; refine (copy_any _ ((([] : List UInt8).drop 0).take 0) wb.drew (bytes_nil _ _ _) ?_).mono ?_; (rw [cut_length _ _ _ HN.out]; omega); rintro e w5 ⟨vo, rfl, ho, hb5⟩; have hb5' : Below wb.heap.size wb w5 := (Below.refl wb.heap.size wb).drew.trans hb5; have H5 := Lib.hid (H1.out.on hb5'); obtain ⟨q0, q1, q2, q3⟩ := H5.out.cells; rw [cut_length _ _ _ HN.out] at ho; obtain ⟨av, cv, rfl⟩ := row_form ho; simp only []))
      all_goals
        have HO5 := Lib.hid ho
        have HR5 : Hid (Fb0 w5 w.heap.size 0 (.slice none 0 0)) := Lib.hid (keep_on hb5' HR1.out)
        have HBW5 : Hid (Below w.heap.size w w5) := Lib.hid (HBW.out.trans (hb5'.mono HBW.out.size))
        have hbase : wb.heap.size ≤ wb.drew.heap.size := Nat.le_refl _
        have HOB := Lib.hid (ownsRow_base HO5.out (Nat.le_trans HBW.out.size hbase))
        clear c0 c1 c2 c3 ho hb5 hb5' hbase
        obtain ⟨r0, r1, g0, g1⟩ := cell2 HR5.out
        have HT := Lib.hid (take_fin H5.out HN.out HR5.out HBW5.out hxl HOB.out hw0s)
        have e0 : (((w5.setCell ⟨xb, 1, none⟩ (.int .i64 0)).setCell ⟨w.heap.size, 0, none⟩ (.int .i64 0)).setCell ⟨w.heap.size, 1, none⟩ (.slice none 0 0)).cell? ⟨w.heap.size, 0, none⟩ = some (.int .i64 0) := HT.out.2.2.2.1
        have e1 : (((w5.setCell ⟨xb, 1, none⟩ (.int .i64 0)).setCell ⟨w.heap.size, 0, none⟩ (.int .i64 0)).setCell ⟨w.heap.size, 1, none⟩ (.slice none 0 0)).cell? ⟨w.heap.size, 1, none⟩ = some (.slice none 0 0) := HT.out.2.2.2.2
        clear HO5 HR1 HRB
        go_wp2
        refine bodyPost_ret (v := .tuple #[.slice av 0 cv, .agg #[.int .i64 0, .slice none 0 0]]) ?_ rfl ⟨⟨_, rfl, HT.out.1⟩, HT.out.2.1, HT.out.2.2.1⟩
        simp [results, Tryd.results46, go_sem, e0, e1]
  | some a =>
    by_cases hl0 : l.length = 0
    · obtain rfl : l = [] := List.length_eq_zero_iff.1 hl0
      obtain rfl : p = 0 := by simpa using hle
      obtain rfl : n = 0 := by simpa using hn
      have hw0 : IntKind.i64.wrap 0 = 0 := by decide
      by_cases hcp : cap = 0
      · subst hcp
        go_enter Tryd.func46, Tryd.ntmps46
        go_wp2_with fail
        generalize w.alloc (.cells #[.int .i64 0, .slice none 0 0] 37) = wa at *
        go_quiet (fail)
        go_wp2
        obtain ⟨wb, hwb⟩ : ∃ x, x = wa.drewN nq := ⟨_, rfl⟩
        have H1 : Hid (XrAt w0 wb xb _ _ _) := Lib.hid (by rw [hwb]; exact H0.out.on (below_drew wa nq))
        have HR1 : Hid (Fb0 wb w.heap.size 0 (.slice none 0 0)) := Lib.hid (by rw [hwb]; exact keep_on (below_drew wa nq) HRB.out)
        have HBW : Hid (Below w.heap.size w wb) := Lib.hid (by rw [hwb]; exact HB0.out.trans ((below_drew wa nq).mono HB0.out.size))
        rw [← hwb]
        clear hwb c0 c1 c2 c3
        obtain ⟨c0, c1, c2, c3⟩ := H1.out.cells
        have HBC : Hid (Below w0.heap.size w0 wb.drew) := Lib.hid H1.out.below.drew
        go_region_law ((go_simp; go_at_call 13; refine (copy_any _ ((([] : List UInt8).drop 0).take 0) wb.drew (bytes_nil _ _ _) ?_).mono ?_; (rw [cut_length _ _ _ HN.out]; omega); rintro e w5 ⟨vo, rfl, ho, hb5⟩; have hb5' : Below wb.heap.size wb w5 := (Below.refl wb.heap.size wb).drew.trans hb5; have H5 := Lib.hid (H1.out.on hb5'); obtain ⟨q0, q1, q2, q3⟩ := H5.out.cells; rw [cut_length _ _ _ HN.out] at ho; obtain ⟨av, cv, rfl⟩ := row_form ho; simp only []))
        all_goals
          have HO5 := Lib.hid ho
          have HR5 : Hid (Fb0 w5 w.heap.size 0 (.slice none 0 0)) := Lib.hid (keep_on hb5' HR1.out)
          have HBW5 : Hid (Below w.heap.size w w5) := Lib.hid (HBW.out.trans (hb5'.mono HBW.out.size))
          have hbase : wb.heap.size ≤ wb.drew.heap.size := Nat.le_refl _
          have HOB := Lib.hid (ownsRow_base HO5.out (Nat.le_trans HBW.out.size hbase))
          clear c0 c1 c2 c3 ho hb5 hb5' hbase
          obtain ⟨r0, r1, g0, g1⟩ := cell2 HR5.out
          have HT := Lib.hid (take_fin H5.out HN.out HR5.out HBW5.out hxl HOB.out hw0s)
          have e0 : (((w5.setCell ⟨xb, 1, none⟩ (.int .i64 0)).setCell ⟨w.heap.size, 0, none⟩ (.int .i64 0)).setCell ⟨w.heap.size, 1, none⟩ (.slice none 0 0)).cell? ⟨w.heap.size, 0, none⟩ = some (.int .i64 0) := HT.out.2.2.2.1
          have e1 : (((w5.setCell ⟨xb, 1, none⟩ (.int .i64 0)).setCell ⟨w.heap.size, 0, none⟩ (.int .i64 0)).setCell ⟨w.heap.size, 1, none⟩ (.slice none 0 0)).cell? ⟨w.heap.size, 1, none⟩ = some (.slice none 0 0) := HT.out.2.2.2.2
          clear HO5 HR1 HRB
          go_wp2
          refine bodyPost_ret (v := .tuple #[.slice av 0 cv, .agg #[.int .i64 0, .slice none 0 0]]) ?_ rfl ⟨⟨_, rfl, HT.out.1⟩, HT.out.2.1, HT.out.2.2.1⟩
          simp [results, Tryd.results46, go_sem, e0, e1]
      · have b2 : (0 : Int) ≤ (cap : Int) := by omega
        go_enter Tryd.func46, Tryd.ntmps46
        go_wp2_with fail
        generalize w.alloc (.cells #[.int .i64 0, .slice none 0 0] 37) = wa at *
        go_quiet (fail)
        go_wp2
        obtain ⟨wb, hwb⟩ : ∃ x, x = wa.drewN nq := ⟨_, rfl⟩
        have H1 : Hid (XrAt w0 wb xb _ _ _) := Lib.hid (by rw [hwb]; exact H0.out.on (below_drew wa nq))
        have HR1 : Hid (Fb0 wb w.heap.size 0 (.slice none 0 0)) := Lib.hid (by rw [hwb]; exact keep_on (below_drew wa nq) HRB.out)
        have HBW : Hid (Below w.heap.size w wb) := Lib.hid (by rw [hwb]; exact HB0.out.trans ((below_drew wa nq).mono HB0.out.size))
        rw [← hwb]
        clear hwb c0 c1 c2 c3
        obtain ⟨c0, c1, c2, c3⟩ := H1.out.cells
        have HBC : Hid (Below w0.heap.size w0 wb.drew) := Lib.hid H1.out.below.drew
        go_region_law ((go_simp; go_at_call 13; refine (copy_any _ ((([] : List UInt8).drop 0).take 0) wb.drew (bytes_nil _ _ _) ?_).mono ?_; (rw [cut_length _ _ _ HN.out]; omega); rintro e w5 ⟨vo, rfl, ho, hb5⟩; have hb5' : Below wb.heap.size wb w5 := (Below.refl wb.heap.size wb).drew.trans hb5; have H5 := Lib.hid (H1.out.on hb5'); obtain ⟨q0, q1, q2, q3⟩ := H5.out.cells; rw [cut_length _ _ _ HN.out] at ho; obtain ⟨av, cv, rfl⟩ := row_form ho; simp only []))
        all_goals
          have HO5 := Lib.hid ho
          have HR5 : Hid (Fb0 w5 w.heap.size 0 (.slice none 0 0)) := Lib.hid (keep_on hb5' HR1.out)
          have HBW5 : Hid (Below w.heap.size w w5) := Lib.hid (HBW.out.trans (hb5'.mono HBW.out.size))
          have hbase : wb.heap.size ≤ wb.drew.heap.size := Nat.le_refl _
          have HOB := Lib.hid (ownsRow_base HO5.out (Nat.le_trans HBW.out.size hbase))
          clear c0 c1 c2 c3 ho hb5 hb5' hbase
          obtain ⟨r0, r1, g0, g1⟩ := cell2 HR5.out
          have HT := Lib.hid (take_fin H5.out HN.out HR5.out HBW5.out hxl HOB.out hw0s)
          have e0 : (((w5.setCell ⟨xb, 1, none⟩ (.int .i64 0)).setCell ⟨w.heap.size, 0, none⟩ (.int .i64 0)).setCell ⟨w.heap.size, 1, none⟩ (.slice none 0 0)).cell? ⟨w.heap.size, 0, none⟩ = some (.int .i64 0) := HT.out.2.2.2.1
          have e1 : (((w5.setCell ⟨xb, 1, none⟩ (.int .i64 0)).setCell ⟨w.heap.size, 0, none⟩ (.int .i64 0)).setCell ⟨w.heap.size, 1, none⟩ (.slice none 0 0)).cell? ⟨w.heap.size, 1, none⟩ = some (.slice none 0 0) := HT.out.2.2.2.2
          clear HO5 HR1 HRB
          go_wp2
          refine bodyPost_ret (v := .tuple #[.slice av 0 cv, .agg #[.int .i64 0, .slice none 0 0]]) ?_ rfl ⟨⟨_, rfl, HT.out.1⟩, HT.out.2.1, HT.out.2.2.1⟩
          simp [results, Tryd.results46, go_sem, e0, e1]
    · obtain ⟨bb, off, hao, _⟩ := HBB.out.at' 0 (by omega)
      cases hao
      by_cases hcp : cap = p
      · obtain rfl : n = 0 := by omega
        have hpl : p = l.length := by omega
        have b0 : (0 : Int) ≤ (p : Int) := by omega
        have hcq : cap = p := hcp
        clear hcp hpl
        subst hcq
        have hw0 : IntKind.i64.wrap (cap : Int) = (cap : Int) := IntWalk.i64_in _ (by omega)
        go_enter Tryd.func46, Tryd.ntmps46
        go_wp2_with fail
        generalize w.alloc (.cells #[.int .i64 0, .slice none 0 0] 37) = wa at *
        go_quiet (fail)
        go_wp2
        obtain ⟨wb, hwb⟩ : ∃ x, x = wa.drewN nq := ⟨_, rfl⟩
        have H1 : Hid (XrAt w0 wb xb _ _ _) := Lib.hid (by rw [hwb]; exact H0.out.on (below_drew wa nq))
        have HR1 : Hid (Fb0 wb w.heap.size 0 (.slice none 0 0)) := Lib.hid (by rw [hwb]; exact keep_on (below_drew wa nq) HRB.out)
        have HBW : Hid (Below w.heap.size w wb) := Lib.hid (by rw [hwb]; exact HB0.out.trans ((below_drew wa nq).mono HB0.out.size))
        rw [← hwb]
        clear hwb c0 c1 c2 c3
        obtain ⟨c0, c1, c2, c3⟩ := H1.out.cells
        have HBC : Hid (Below w0.heap.size w0 wb.drew) := Lib.hid H1.out.below.drew
        go_region_law ((go_simp; go_at_call 13; refine (copy_any _ (((l : List UInt8).drop cap).take 0) wb.drew (bytes_nil _ _ _) ?_).mono ?_; (rw [cut_length _ _ _ HN.out]; omega); rintro e w5 ⟨vo, rfl, ho, hb5⟩; have hb5' : Below wb.heap.size wb w5 := (Below.refl wb.heap.size wb).drew.trans hb5; have H5 := Lib.hid (H1.out.on hb5'); obtain ⟨q0, q1, q2, q3⟩ := H5.out.cells; rw [cut_length _ _ _ HN.out] at ho; obtain ⟨av, cv, rfl⟩ := row_form ho; simp only []))
        all_goals
          have HO5 := Lib.hid ho
          have HR5 : Hid (Fb0 w5 w.heap.size 0 (.slice none 0 0)) := Lib.hid (keep_on hb5' HR1.out)
          have HBW5 : Hid (Below w.heap.size w w5) := Lib.hid (HBW.out.trans (hb5'.mono HBW.out.size))
          have hbase : wb.heap.size ≤ wb.drew.heap.size := Nat.le_refl _
          have HOB := Lib.hid (ownsRow_base HO5.out (Nat.le_trans HBW.out.size hbase))
          clear c0 c1 c2 c3 ho hb5 hb5' hbase
          obtain ⟨r0, r1, g0, g1⟩ := cell2 HR5.out
          have HT := Lib.hid (take_fin H5.out HN.out HR5.out HBW5.out hxl HOB.out hw0s)
          have e0 : (((w5.setCell ⟨xb, 1, none⟩ (.int .i64 (cap : Int))).setCell ⟨w.heap.size, 0, none⟩ (.int .i64 0)).setCell ⟨w.heap.size, 1, none⟩ (.slice none 0 0)).cell? ⟨w.heap.size, 0, none⟩ = some (.int .i64 0) := HT.out.2.2.2.1
          have e1 : (((w5.setCell ⟨xb, 1, none⟩ (.int .i64 (cap : Int))).setCell ⟨w.heap.size, 0, none⟩ (.int .i64 0)).setCell ⟨w.heap.size, 1, none⟩ (.slice none 0 0)).cell? ⟨w.heap.size, 1, none⟩ = some (.slice none 0 0) := HT.out.2.2.2.2
          clear HO5 HR1 HRB
          go_wp2
          refine bodyPost_ret (v := .tuple #[.slice av 0 cv, .agg #[.int .i64 0, .slice none 0 0]]) ?_ rfl ⟨⟨_, rfl, HT.out.1⟩, HT.out.2.1, HT.out.2.2.1⟩
          simp [results, Tryd.results46, go_sem, e0, e1]
      · have HCUT : Hid (∀ W : World, Below w0.heap.size w0 W → BytesAt W (.slice (some ⟨bb, off + p, none⟩) n (cap - p)) ((l.drop p).take n)) := Lib.hid (fun W hW => cut_at (HBB.out.on hW) HN.out)
        have b0 : (0 : Int) ≤ (p : Int) := by omega
        have b1 : (0 : Int) ≤ (p : Int) + (n : Int) := by omega
        have b2 : (p : Int) + (n : Int) ≤ (cap : Int) := by omega
        have b3 : (p : Int) ≤ (p : Int) + (n : Int) := by omega
        have htn : ((p : Int) + (n : Int)).toNat - p = n := by omega
        have hw0 : IntKind.i64.wrap ((p : Int) + (n : Int)) = (p : Int) + (n : Int) := IntWalk.i64_in _ (by omega)
        go_enter Tryd.func46, Tryd.ntmps46
        go_wp2_with fail
        generalize w.alloc (.cells #[.int .i64 0, .slice none 0 0] 37) = wa at *
        go_quiet (fail)
        go_wp2
        obtain ⟨wb, hwb⟩ : ∃ x, x = wa.drewN nq := ⟨_, rfl⟩
        have H1 : Hid (XrAt w0 wb xb _ _ _) := Lib.hid (by rw [hwb]; exact H0.out.on (below_drew wa nq))
        have HR1 : Hid (Fb0 wb w.heap.size 0 (.slice none 0 0)) := Lib.hid (by rw [hwb]; exact keep_on (below_drew wa nq) HRB.out)
        have HBW : Hid (Below w.heap.size w wb) := Lib.hid (by rw [hwb]; exact HB0.out.trans ((below_drew wa nq).mono HB0.out.size))
        rw [← hwb]
        clear hwb c0 c1 c2 c3
        obtain ⟨c0, c1, c2, c3⟩ := H1.out.cells
        have HBC : Hid (Below w0.heap.size w0 wb.drew) := Lib.hid H1.out.below.drew
        go_region_law ((go_simp; go_at_call 13; refine (copy_any _ (((l : List UInt8).drop p).take n) wb.drew (HCUT.out _ HBC.out) ?_).mono ?_; (rw [cut_length _ _ _ HN.out]; omega); rintro e w5 ⟨vo, rfl, ho, hb5⟩; have hb5' : Below wb.heap.size wb w5 := (Below.refl wb.heap.size wb).drew.trans hb5; have H5 := Lib.hid (H1.out.on hb5'); obtain ⟨q0, q1, q2, q3⟩ := H5.out.cells; rw [cut_length _ _ _ HN.out] at ho; obtain ⟨av, cv, rfl⟩ := row_form ho; simp only []))
        all_goals
          have HO5 := Lib.hid ho
          have HR5 : Hid (Fb0 w5 w.heap.size 0 (.slice none 0 0)) := Lib.hid (keep_on hb5' HR1.out)
          have HBW5 : Hid (Below w.heap.size w w5) := Lib.hid (HBW.out.trans (hb5'.mono HBW.out.size))
          have hbase : wb.heap.size ≤ wb.drew.heap.size := Nat.le_refl _
          have HOB := Lib.hid (ownsRow_base HO5.out (Nat.le_trans HBW.out.size hbase))
          clear c0 c1 c2 c3 ho hb5 hb5' hbase
          obtain ⟨r0, r1, g0, g1⟩ := cell2 HR5.out
          have HT := Lib.hid (take_fin H5.out HN.out HR5.out HBW5.out hxl HOB.out hw0s)
          have e0 : (((w5.setCell ⟨xb, 1, none⟩ (.int .i64 ((p : Int) + (n : Int)))).setCell ⟨w.heap.size, 0, none⟩ (.int .i64 0)).setCell ⟨w.heap.size, 1, none⟩ (.slice none 0 0)).cell? ⟨w.heap.size, 0, none⟩ = some (.int .i64 0) := HT.out.2.2.2.1
          have e1 : (((w5.setCell ⟨xb, 1, none⟩ (.int .i64 ((p : Int) + (n : Int)))).setCell ⟨w.heap.size, 0, none⟩ (.int .i64 0)).setCell ⟨w.heap.size, 1, none⟩ (.slice none 0 0)).cell? ⟨w.heap.size, 1, none⟩ = some (.slice none 0 0) := HT.out.2.2.2.2
          clear HO5 HR1 HRB
          go_wp2
          refine bodyPost_ret (v := .tuple #[.slice av n cv, .agg #[.int .i64 0, .slice none 0 0]]) ?_ rfl ⟨⟨_, rfl, HT.out.1⟩, HT.out.2.1, HT.out.2.2.1⟩
          simp [results, Tryd.results46, go_sem, e0, e1]
end Go.Proofs.YtpdngcjgfngnjaaDoor
