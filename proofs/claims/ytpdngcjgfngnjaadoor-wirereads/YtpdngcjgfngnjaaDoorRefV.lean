/- yardref2.Reader's I, Bytes and Done: the document's own answers, for every row of bytes, every place and every count. -/
import Derived.Test.YtpdngcjgfngnjaaDoorRefU
namespace Go.Proofs.YtpdngcjgfngnjaaDoor
open Go.RowKit Go.Extern.Stop Go.Stop Go.Extern

set_option maxRecDepth 100000 in
set_option maxHeartbeats 2000000 in
theorem rby_range (xb : Nat) (bv : Value) (l : List UInt8) (p : Nat) (n : Int) (w0 w : World) (h : XrAt w0 w xb bv l p) (hn : n < 0) :
    Calls Tryd.prog 22 #[.pointer (some ⟨xb, 0, none⟩), .int .i64 n] w (DocBad w p 1 (.slice none 0 0)) := by
  have HB0 : Hid (Below w.heap.size w (w.alloc (.cells #[.int .i64 0, .slice none 0 0] 37))) := Lib.hid (below_new _ _)
  have H0 := Lib.hid (h.on HB0.out)
  have HRB : Hid (Fb0 (w.alloc (.cells #[.int .i64 0, .slice none 0 0] 37)) w.heap.size 0 (.slice none 0 0)) := Lib.hid (heap_alloc_new w _)
  have hxl : xb < w.heap.size := h.lt
  have hw0s : w0.heap.size ≤ w.heap.size := h.below.size
  clear h
  go_enter Tryd.func22, Tryd.ntmps22
  go_wp2_with fail
  generalize w.alloc (.cells #[.int .i64 0, .slice none 0 0] 37) = wa at *
  refine (rfail_any xb bv l p 1 w0 wa H0.out).mono ?_
  rintro e w1 ⟨g, rfl, hst, hb⟩
  have HB1 : Hid (Below wa.heap.size wa w1) := Lib.hid hb
  have hres : Fb0 w1 w.heap.size 0 (.slice none 0 0) := keep_on hb HRB.out
  obtain ⟨r0, r1, g0, g1⟩ := cell2 hres
  obtain ⟨e0, e1⟩ := res_cells (c' := 1) (s' := .slice (some ⟨g, 0, none⟩) 1 1) hres
  have HS2 := Lib.hid (res_steps (c' := 1) (s' := .slice (some ⟨g, 0, none⟩) 1 1) hres hst)
  clear hst hb hres
  go_wp2
  refine bodyPost_ret (v := .tuple #[.slice none 0 0, .agg #[.int .i64 1, .slice (some ⟨g, 0, none⟩) 1 1]]) ?_ rfl ⟨g, rfl, HS2.out, fin_below (HB0.out.trans (HB1.out.mono HB0.out.size)) _ _⟩
  simp [results, Tryd.results22, go_sem, e0, e1]

set_option maxRecDepth 100000 in
set_option maxHeartbeats 2000000 in
theorem rby_short (xb : Nat) (bv : Value) (l : List UInt8) (p : Nat) (n : Int) (w0 w : World) (h : XrAt w0 w xb bv l p) (hn : 0 ≤ n) (hs : ((l.length - p : Nat) : Int) < n) :
    Calls Tryd.prog 22 #[.pointer (some ⟨xb, 0, none⟩), .int .i64 n] w (DocBad w p 2 (.slice none 0 0)) := by
  have HB0 : Hid (Below w.heap.size w (w.alloc (.cells #[.int .i64 0, .slice none 0 0] 37))) := Lib.hid (below_new _ _)
  have H0 := Lib.hid (h.on HB0.out)
  have HRB : Hid (Fb0 (w.alloc (.cells #[.int .i64 0, .slice none 0 0] 37)) w.heap.size 0 (.slice none 0 0)) := Lib.hid (heap_alloc_new w _)
  have hxl : xb < w.heap.size := h.lt
  have hw0s : w0.heap.size ≤ w.heap.size := h.below.size
  clear h
  have HSH := Lib.hid hs
  clear hs
  go_enter Tryd.func22, Tryd.ntmps22
  go_wp2_with fail
  generalize w.alloc (.cells #[.int .i64 0, .slice none 0 0] 37) = wa at *
  refine (rtake_short xb bv l p n w0 wa H0.out HSH.out).mono ?_
  rintro e w1 ⟨g, rfl, hst, hb⟩
  have HB1 : Hid (Below wa.heap.size wa w1) := Lib.hid hb
  have hres : Fb0 w1 w.heap.size 0 (.slice none 0 0) := keep_on hb HRB.out
  obtain ⟨r0, r1, g0, g1⟩ := cell2 hres
  obtain ⟨e0, e1⟩ := res_cells (c' := 2) (s' := .slice (some ⟨g, 0, none⟩) 1 1) hres
  have HS2 := Lib.hid (res_steps (c' := 2) (s' := .slice (some ⟨g, 0, none⟩) 1 1) hres hst)
  clear hst hb hres
  go_wp2
  refine bodyPost_ret (v := .tuple #[.slice none 0 0, .agg #[.int .i64 2, .slice (some ⟨g, 0, none⟩) 1 1]]) ?_ rfl ⟨g, rfl, HS2.out, fin_below (HB0.out.trans (HB1.out.mono HB0.out.size)) _ _⟩
  simp [results, Tryd.results22, go_sem, e0, e1]

/-- What the document's Bytes answers where they are there. -/
def DocRow (w0 w : World) (xb : Nat) (bv : Value) (l : List UInt8) (p n : Nat) (e : Ending) (w' : World) : Prop :=
  (∃ x, e = .returned (.tuple #[x, .agg #[.int .i64 0, .slice none 0 0]]) ∧ w'.ownsRow w.heap.size 5 1 x n (bcells ((l.drop p).take n))) ∧ XrAt w0 w' xb bv l (p + n) ∧ Off (fun k => k = xb) w w'

set_option maxRecDepth 100000 in
set_option maxHeartbeats 2000000 in
theorem rby_ok (xb : Nat) (bv : Value) (l : List UInt8) (p n : Nat) (w0 w : World) (h : XrAt w0 w xb bv l p) (hn : p + n ≤ l.length) :
    Calls Tryd.prog 22 #[.pointer (some ⟨xb, 0, none⟩), .int .i64 (n : Int)] w (DocRow w0 w xb bv l p n) := by
  have HB0 : Hid (Below w.heap.size w (w.alloc (.cells #[.int .i64 0, .slice none 0 0] 37))) := Lib.hid (below_new _ _)
  have H0 := Lib.hid (h.on HB0.out)
  have HRB : Hid (Fb0 (w.alloc (.cells #[.int .i64 0, .slice none 0 0] 37)) w.heap.size 0 (.slice none 0 0)) := Lib.hid (heap_alloc_new w _)
  have hxl : xb < w.heap.size := h.lt
  have hw0s : w0.heap.size ≤ w.heap.size := h.below.size
  clear h
  have HN := Lib.hid hn
  have hxne : w.heap.size ≠ xb := by omega
  have hn0 : ¬ (n : Int) < 0 := by omega
  clear hn
  go_enter Tryd.func22, Tryd.ntmps22
  go_wp2_with fail
  generalize w.alloc (.cells #[.int .i64 0, .slice none 0 0] 37) = wa at *
  refine (rtake_ok xb bv l p n w0 wa H0.out HN.out).mono ?_
  rintro e w1 ⟨⟨x, rfl, hx⟩, hr, ho⟩
  obtain ⟨ax, cx, rfl⟩ := row_form hx
  have hr1 : Fb0 w1 w.heap.size 0 (.slice none 0 0) := (ho.block w.heap.size (lt_heap HRB.out) hxne).trans HRB.out
  have HR1 := Lib.hid hr1
  have HFN := Lib.hid (fin_num hr ((Off.of_below _ HB0.out).trans ho) hxl hw0s 0 (.slice none 0 0))
  have k2 : Off (fun k => k = w.heap.size) w1 ((w1.setCell ⟨w.heap.size, 0, none⟩ (.int .i64 0)).setCell ⟨w.heap.size, 1, none⟩ (.slice none 0 0)) := (Off.set (fun k => k = w.heap.size) w1 ⟨w.heap.size, 0, none⟩ _ rfl).trans (Off.set _ _ ⟨w.heap.size, 1, none⟩ _ rfl)
  have HO := Lib.hid (ownsRow_off (ownsRow_base hx HB0.out.size) k2 (fun k hk e => by subst e; exact row_no hx hr1 (by decide) hk))
  obtain ⟨r0, r1, g0, g1⟩ := cell2 hr1
  obtain ⟨e0, e1⟩ := res_cells (c' := 0) (s' := .slice none 0 0) hr1
  clear hx hr ho hr1 k2
  go_wp2
  refine bodyPost_ret (v := .tuple #[.slice ax n cx, .agg #[.int .i64 0, .slice none 0 0]]) ?_ rfl ⟨⟨_, rfl, HO.out⟩, HFN.out.1, HFN.out.2⟩
  simp [results, Tryd.results22, go_sem, e0, e1]

set_option maxRecDepth 100000 in
set_option maxHeartbeats 2000000 in
theorem rdone_long (xb : Nat) (bv : Value) (l : List UInt8) (p : Nat) (w0 w : World) (h : XrAt w0 w xb bv l p) (hp : p < l.length) :
    Calls Tryd.prog 28 #[.pointer (some ⟨xb, 0, none⟩)] w (DocErr w p 3) := by
  have HB0 : Hid (Below w.heap.size w (w.alloc (.cells #[.int .i64 0, .slice none 0 0] 37))) := Lib.hid (below_new _ _)
  have H0 := Lib.hid (h.on HB0.out)
  have HRB : Hid (Fb0 (w.alloc (.cells #[.int .i64 0, .slice none 0 0] 37)) w.heap.size 0 (.slice none 0 0)) := Lib.hid (heap_alloc_new w _)
  have hxl : xb < w.heap.size := h.lt
  have hw0s : w0.heap.size ≤ w.heap.size := h.below.size
  clear h
  obtain ⟨c0, c1, _, _⟩ := H0.out.cells
  obtain ⟨ao, cap, rfl⟩ := H0.out.bytes
  go_enter Tryd.func28, Tryd.ntmps28
  go_wp2_with fail
  generalize w.alloc (.cells #[.int .i64 0, .slice none 0 0] 37) = wa at *
  go_quiet (fail)
  go_wp2_with fail
  refine (rfail_any xb _ l p 3 w0 _ (H0.out.on (below_drew wa nq))).mono ?_
  rintro e w1 ⟨g, rfl, hst, hb⟩
  have HB1 : Hid (Below wa.heap.size wa w1) := Lib.hid ((below_drew wa nq).trans hb)
  have hres : Fb0 w1 w.heap.size 0 (.slice none 0 0) := keep_on HB1.out HRB.out
  obtain ⟨r0, r1, g0, g1⟩ := cell2 hres
  obtain ⟨e0, e1⟩ := res_cells (c' := 3) (s' := .slice (some ⟨g, 0, none⟩) 1 1) hres
  have HS2 := Lib.hid (res_steps (c' := 3) (s' := .slice (some ⟨g, 0, none⟩) 1 1) hres hst)
  clear hst hb hres c0 c1
  go_wp2
  refine bodyPost_ret (v := .agg #[.int .i64 3, .slice (some ⟨g, 0, none⟩) 1 1]) ?_ rfl ⟨g, rfl, HS2.out, fin_below (HB0.out.trans (HB1.out.mono HB0.out.size)) _ _⟩
  simp [results, Tryd.results28, go_sem, e0, e1]

set_option maxRecDepth 100000 in
set_option maxHeartbeats 2000000 in
theorem rdone_ok (xb : Nat) (bv : Value) (l : List UInt8) (p : Nat) (w0 w : World) (h : XrAt w0 w xb bv l p) (hp : p = l.length) :
    Calls Tryd.prog 28 #[.pointer (some ⟨xb, 0, none⟩)] w fun e w' => e = .returned (.agg #[.int .i64 0, .slice none 0 0]) ∧ Below w.heap.size w w' := by
  have HB0 : Hid (Below w.heap.size w (w.alloc (.cells #[.int .i64 0, .slice none 0 0] 37))) := Lib.hid (below_new _ _)
  have H0 := Lib.hid (h.on HB0.out)
  have HRB : Hid (Fb0 (w.alloc (.cells #[.int .i64 0, .slice none 0 0] 37)) w.heap.size 0 (.slice none 0 0)) := Lib.hid (heap_alloc_new w _)
  have hxl : xb < w.heap.size := h.lt
  have hw0s : w0.heap.size ≤ w.heap.size := h.below.size
  clear h
  obtain ⟨c0, c1, _, _⟩ := H0.out.cells
  obtain ⟨ao, cap, rfl⟩ := H0.out.bytes
  subst hp
  go_enter Tryd.func28, Tryd.ntmps28
  go_wp2_with fail
  generalize w.alloc (.cells #[.int .i64 0, .slice none 0 0] 37) = wa at *
  go_quiet (fail)
  have HRQ : Hid (Fb0 (wa.drewN nq) w.heap.size 0 (.slice none 0 0)) := Lib.hid (keep_on (below_drew wa nq) HRB.out)
  have HBQ : Hid (Below w.heap.size w (wa.drewN nq)) := Lib.hid (HB0.out.trans ((below_drew wa nq).mono HB0.out.size))
  generalize wa.drewN nq = wq at *
  obtain ⟨r0, r1, g0, g1⟩ := cell2 HRQ.out
  obtain ⟨e0, e1⟩ := res_cells (c' := 0) (s' := .slice none 0 0) HRQ.out
  go_wp2
  refine bodyPost_ret (v := .agg #[.int .i64 0, .slice none 0 0]) ?_ rfl ⟨rfl, fin_below HBQ.out _ _⟩
  simp [results, Tryd.results28, go_sem, e0, e1]

set_option maxRecDepth 100000 in
set_option maxHeartbeats 2000000 in
theorem ri_range (xb : Nat) (bv : Value) (l : List UInt8) (p : Nat) (n : Int) (w0 w : World) (h : XrAt w0 w xb bv l p) (hn : ¬ (1 ≤ n ∧ n ≤ 6)) :
    Calls Tryd.prog 18 #[.pointer (some ⟨xb, 0, none⟩), .int .i64 n] w (DocBad w p 1 (.int .i64 0)) := by
  have HU : Hid (∀ W : World, XrAt w0 W xb bv l p → Calls Tryd.prog 16 #[.pointer (some ⟨xb, 0, none⟩), .int .i64 n] W (DocBad W p 1 (.int .i64 0))) := Lib.hid (fun W hW => ru_range xb bv l p n w0 W hW hn)
  have HB0 : Hid (Below w.heap.size w (w.alloc (.cells #[.int .i64 0, .slice none 0 0] 37))) := Lib.hid (below_new _ _)
  have H0 := Lib.hid (h.on HB0.out)
  have HRB : Hid (Fb0 (w.alloc (.cells #[.int .i64 0, .slice none 0 0] 37)) w.heap.size 0 (.slice none 0 0)) := Lib.hid (heap_alloc_new w _)
  have hxl : xb < w.heap.size := h.lt
  have hw0s : w0.heap.size ≤ w.heap.size := h.below.size
  clear h
  go_enter Tryd.func18, Tryd.ntmps18
  go_wp2_with fail
  generalize w.alloc (.cells #[.int .i64 0, .slice none 0 0] 37) = wa at *
  refine (HU.out wa H0.out).mono ?_
  rintro e w1 ⟨g, rfl, hst, hb⟩
  have hbe : Below w1.heap.size w1 (w1.alloc (.cells #[.int .i64 1, .slice (some ⟨g, 0, none⟩) 1 1] 37)) := below_new _ _
  have HRE : Hid (Fb0 (w1.alloc (.cells #[.int .i64 1, .slice (some ⟨g, 0, none⟩) 1 1] 37)) w.heap.size 0 (.slice none 0 0)) := Lib.hid (keep_on hbe (keep_on hb HRB.out))
  have HEE : Hid (Fb0 (w1.alloc (.cells #[.int .i64 1, .slice (some ⟨g, 0, none⟩) 1 1] 37)) w1.heap.size 1 (.slice (some ⟨g, 0, none⟩) 1 1)) := Lib.hid (heap_alloc_new w1 _)
  have HSE := Lib.hid (hst.on hbe)
  have HBE : Hid (Below w.heap.size w (w1.alloc (.cells #[.int .i64 1, .slice (some ⟨g, 0, none⟩) 1 1] 37))) := Lib.hid (HB0.out.trans ((hb.trans (hbe.mono hb.size)).mono HB0.out.size))
  obtain ⟨k0, k1, k2, k3⟩ := cell2 HEE.out
  clear hst hb hbe
  go_wp2_with fail
  generalize w1.alloc (.cells #[.int .i64 1, .slice (some ⟨g, 0, none⟩) 1 1] 37) = wE at *
  refine (ok_false 1 (by decide) _ _ _ _).mono ?_
  rintro e w2 ⟨rfl, hb2⟩
  have HE2 : Hid (Fb0 w2 w1.heap.size 1 (.slice (some ⟨g, 0, none⟩) 1 1)) := Lib.hid (keep_on hb2 HEE.out)
  have HR2 : Hid (Fb0 w2 w.heap.size 0 (.slice none 0 0)) := Lib.hid (keep_on hb2 HRE.out)
  obtain ⟨m0, m1, m2, m3⟩ := cell2 HE2.out
  obtain ⟨r0, r1, g0, g1⟩ := cell2 HR2.out
  obtain ⟨e0, e1⟩ := res_cells (c' := 1) (s' := .slice (some ⟨g, 0, none⟩) 1 1) HR2.out
  have HS2 := Lib.hid (res_steps (c' := 1) (s' := .slice (some ⟨g, 0, none⟩) 1 1) HR2.out (HSE.out.on hb2))
  have HB2 : Hid (Below w.heap.size w w2) := Lib.hid (HBE.out.trans (hb2.mono HBE.out.size))
  clear k0 k1 k2 k3 hb2
  go_wp2
  go_region_law (fail)
  all_goals
    go_wp2
    refine bodyPost_ret (v := .tuple #[.int .i64 0, .agg #[.int .i64 1, .slice (some ⟨g, 0, none⟩) 1 1]]) ?_ rfl ⟨g, rfl, HS2.out.on (below_drew _ 1), (fin_below HB2.out _ _).drew⟩
    simp [results, Tryd.results18, go_sem, e0, e1]

set_option maxRecDepth 100000 in
set_option maxHeartbeats 2000000 in
theorem ri_short (xb : Nat) (bv : Value) (l : List UInt8) (p : Nat) (n : Int) (w0 w : World) (h : XrAt w0 w xb bv l p) (hn1 : 1 ≤ n) (hn2 : n ≤ 6) (hs : ((l.length - p : Nat) : Int) < n) :
    Calls Tryd.prog 18 #[.pointer (some ⟨xb, 0, none⟩), .int .i64 n] w (DocBad w p 2 (.int .i64 0)) := by
  have HU : Hid (∀ W : World, XrAt w0 W xb bv l p → Calls Tryd.prog 16 #[.pointer (some ⟨xb, 0, none⟩), .int .i64 n] W (DocBad W p 2 (.int .i64 0))) := Lib.hid (fun W hW => ru_short xb bv l p n w0 W hW hn1 hn2 hs)
  have HB0 : Hid (Below w.heap.size w (w.alloc (.cells #[.int .i64 0, .slice none 0 0] 37))) := Lib.hid (below_new _ _)
  have H0 := Lib.hid (h.on HB0.out)
  have HRB : Hid (Fb0 (w.alloc (.cells #[.int .i64 0, .slice none 0 0] 37)) w.heap.size 0 (.slice none 0 0)) := Lib.hid (heap_alloc_new w _)
  have hxl : xb < w.heap.size := h.lt
  have hw0s : w0.heap.size ≤ w.heap.size := h.below.size
  clear h
  go_enter Tryd.func18, Tryd.ntmps18
  go_wp2_with fail
  generalize w.alloc (.cells #[.int .i64 0, .slice none 0 0] 37) = wa at *
  refine (HU.out wa H0.out).mono ?_
  rintro e w1 ⟨g, rfl, hst, hb⟩
  have hbe : Below w1.heap.size w1 (w1.alloc (.cells #[.int .i64 2, .slice (some ⟨g, 0, none⟩) 1 1] 37)) := below_new _ _
  have HRE : Hid (Fb0 (w1.alloc (.cells #[.int .i64 2, .slice (some ⟨g, 0, none⟩) 1 1] 37)) w.heap.size 0 (.slice none 0 0)) := Lib.hid (keep_on hbe (keep_on hb HRB.out))
  have HEE : Hid (Fb0 (w1.alloc (.cells #[.int .i64 2, .slice (some ⟨g, 0, none⟩) 1 1] 37)) w1.heap.size 2 (.slice (some ⟨g, 0, none⟩) 1 1)) := Lib.hid (heap_alloc_new w1 _)
  have HSE := Lib.hid (hst.on hbe)
  have HBE : Hid (Below w.heap.size w (w1.alloc (.cells #[.int .i64 2, .slice (some ⟨g, 0, none⟩) 1 1] 37))) := Lib.hid (HB0.out.trans ((hb.trans (hbe.mono hb.size)).mono HB0.out.size))
  obtain ⟨k0, k1, k2, k3⟩ := cell2 HEE.out
  clear hst hb hbe
  go_wp2_with fail
  generalize w1.alloc (.cells #[.int .i64 2, .slice (some ⟨g, 0, none⟩) 1 1] 37) = wE at *
  refine (ok_false 2 (by decide) _ _ _ _).mono ?_
  rintro e w2 ⟨rfl, hb2⟩
  have HE2 : Hid (Fb0 w2 w1.heap.size 2 (.slice (some ⟨g, 0, none⟩) 1 1)) := Lib.hid (keep_on hb2 HEE.out)
  have HR2 : Hid (Fb0 w2 w.heap.size 0 (.slice none 0 0)) := Lib.hid (keep_on hb2 HRE.out)
  obtain ⟨m0, m1, m2, m3⟩ := cell2 HE2.out
  obtain ⟨r0, r1, g0, g1⟩ := cell2 HR2.out
  obtain ⟨e0, e1⟩ := res_cells (c' := 2) (s' := .slice (some ⟨g, 0, none⟩) 1 1) HR2.out
  have HS2 := Lib.hid (res_steps (c' := 2) (s' := .slice (some ⟨g, 0, none⟩) 1 1) HR2.out (HSE.out.on hb2))
  have HB2 : Hid (Below w.heap.size w w2) := Lib.hid (HBE.out.trans (hb2.mono HBE.out.size))
  clear k0 k1 k2 k3 hb2
  go_wp2
  go_region_law (fail)
  all_goals
    go_wp2
    refine bodyPost_ret (v := .tuple #[.int .i64 0, .agg #[.int .i64 2, .slice (some ⟨g, 0, none⟩) 1 1]]) ?_ rfl ⟨g, rfl, HS2.out.on (below_drew _ 1), (fin_below HB2.out _ _).drew⟩
    simp [results, Tryd.results18, go_sem, e0, e1]

set_option maxRecDepth 100000 in
set_option maxHeartbeats 2000000 in
theorem ri_ok (xb : Nat) (bv : Value) (l : List UInt8) (p n : Nat) (w0 w : World) (h : XrAt w0 w xb bv l p) (hn1 : 1 ≤ n) (hn2 : n ≤ 6) (hs : p + n ≤ l.length) :
    Calls Tryd.prog 18 #[.pointer (some ⟨xb, 0, none⟩), .int .i64 (n : Int)] w (DocNum w0 w xb bv l p n (sgnNum n (leNum ((l.drop p).take n)))) := by
  have HU : Hid (∀ W : World, XrAt w0 W xb bv l p → Calls Tryd.prog 16 #[.pointer (some ⟨xb, 0, none⟩), .int .i64 (n : Int)] W (DocNum w0 W xb bv l p n (leNum ((l.drop p).take n) : Nat))) := Lib.hid (fun W hW => ru_ok xb bv l p n w0 W hW hn1 hn2 hs)
  have HB0 : Hid (Below w.heap.size w (w.alloc (.cells #[.int .i64 0, .slice none 0 0] 37))) := Lib.hid (below_new _ _)
  have H0 := Lib.hid (h.on HB0.out)
  have HRB : Hid (Fb0 (w.alloc (.cells #[.int .i64 0, .slice none 0 0] 37)) w.heap.size 0 (.slice none 0 0)) := Lib.hid (heap_alloc_new w _)
  have hxl : xb < w.heap.size := h.lt
  have hw0s : w0.heap.size ≤ w.heap.size := h.below.size
  clear h
  obtain ⟨s, hsp, hs1, hs2⟩ := span_facts n hn1 hn2
  have hx : leNum ((l.drop p).take n) < 2 * s := by
    have := leNum_lt ((l.drop p).take n)
    rw [cut_length l p n hs, hsp] at this
    exact this
  have hxne : w.heap.size ≠ xb := by omega
  have hsg : sgnNum n (leNum ((l.drop p).take n)) = if s ≤ leNum ((l.drop p).take n) then (leNum ((l.drop p).take n) : Int) - ((2 * s : Nat) : Int) else (leNum ((l.drop p).take n) : Int) := by
    unfold sgnNum
    rw [hsp]
    by_cases hq : s ≤ leNum ((l.drop p).take n)
    · rw [if_pos hq, if_pos (by omega)]
    · rw [if_neg hq, if_neg (by omega)]
  have hP : (2 : Int) ^ (8 * n) = 2 * (s : Int) := by
    rw [pow_span n hn2, hsp]
    omega
  have hH := pow_half n s hn1 hn2 hsp
  rw [hsg]
  clear hsg hsp
  generalize leNum ((l.drop p).take n) = y at *
  by_cases hq : s ≤ y
  · rw [if_pos hq]
    go_enter Tryd.func18, Tryd.ntmps18
    go_wp2_with fail
    generalize w.alloc (.cells #[.int .i64 0, .slice none 0 0] 37) = wa at *
    refine (HU.out wa H0.out).mono ?_
    rintro e w1 ⟨rfl, hr, ho⟩
    have hbe : Below w1.heap.size w1 (w1.alloc (.cells #[.int .i64 0, .slice none 0 0] 37)) := below_new _ _
    have hr1 : Fb0 w1 w.heap.size 0 (.slice none 0 0) := (ho.block w.heap.size (lt_heap HRB.out) hxne).trans HRB.out
    have HRE : Hid (Fb0 (w1.alloc (.cells #[.int .i64 0, .slice none 0 0] 37)) w.heap.size 0 (.slice none 0 0)) := Lib.hid (keep_on hbe hr1)
    have HEE : Hid (Fb0 (w1.alloc (.cells #[.int .i64 0, .slice none 0 0] 37)) w1.heap.size 0 (.slice none 0 0)) := Lib.hid (heap_alloc_new w1 _)
    have HXE := Lib.hid (hr.on hbe)
    have HKE : Hid (Off (fun k => k = xb) w (w1.alloc (.cells #[.int .i64 0, .slice none 0 0] 37))) := Lib.hid (((Off.of_below _ HB0.out).trans ho).trans (Off.of_below _ hbe))
    obtain ⟨k0, k1, k2, k3⟩ := cell2 HEE.out
    clear hr ho hbe hr1
    go_wp2_with fail
    generalize w1.alloc (.cells #[.int .i64 0, .slice none 0 0] 37) = wE at *
    refine (ok_true _).mono ?_
    rintro e w2 ⟨rfl, hb2⟩
    have HE2 : Hid (Fb0 w2 w1.heap.size 0 (.slice none 0 0)) := Lib.hid (keep_on hb2 HEE.out)
    have HR2 : Hid (Fb0 w2 w.heap.size 0 (.slice none 0 0)) := Lib.hid (keep_on hb2 HRE.out)
    obtain ⟨m0, m1, m2, m3⟩ := cell2 HE2.out
    obtain ⟨r0, r1, g0, g1⟩ := cell2 HR2.out
    obtain ⟨e0, e1⟩ := res_cells (c' := 0) (s' := .slice none 0 0) HR2.out
    have HFN := Lib.hid (fin_num (HXE.out.on hb2) (HKE.out.trans (Off.of_below _ hb2)) hxl hw0s 0 (.slice none 0 0))
    clear k0 k1 k2 k3 hb2
    go_wp2
    go_region_law (fail)
    all_goals
      go_wp2
      refine bodyPost_ret (v := .tuple #[.int .i64 ((y : Int) - 2 * (s : Int)), .agg #[.int .i64 0, .slice none 0 0]]) ?_ rfl ⟨by rw [show ((2 * s : Nat) : Int) = 2 * (s : Int) by omega], HFN.out.1.on (below_drew _ 1), HFN.out.2.trans (Off.of_below _ (below_drew _ 1))⟩
      simp [results, Tryd.results18, go_sem, e0, e1]
  · rw [if_neg hq]
    go_enter Tryd.func18, Tryd.ntmps18
    go_wp2_with fail
    generalize w.alloc (.cells #[.int .i64 0, .slice none 0 0] 37) = wa at *
    refine (HU.out wa H0.out).mono ?_
    rintro e w1 ⟨rfl, hr, ho⟩
    have hbe : Below w1.heap.size w1 (w1.alloc (.cells #[.int .i64 0, .slice none 0 0] 37)) := below_new _ _
    have hr1 : Fb0 w1 w.heap.size 0 (.slice none 0 0) := (ho.block w.heap.size (lt_heap HRB.out) hxne).trans HRB.out
    have HRE : Hid (Fb0 (w1.alloc (.cells #[.int .i64 0, .slice none 0 0] 37)) w.heap.size 0 (.slice none 0 0)) := Lib.hid (keep_on hbe hr1)
    have HEE : Hid (Fb0 (w1.alloc (.cells #[.int .i64 0, .slice none 0 0] 37)) w1.heap.size 0 (.slice none 0 0)) := Lib.hid (heap_alloc_new w1 _)
    have HXE := Lib.hid (hr.on hbe)
    have HKE : Hid (Off (fun k => k = xb) w (w1.alloc (.cells #[.int .i64 0, .slice none 0 0] 37))) := Lib.hid (((Off.of_below _ HB0.out).trans ho).trans (Off.of_below _ hbe))
    obtain ⟨k0, k1, k2, k3⟩ := cell2 HEE.out
    clear hr ho hbe hr1
    go_wp2_with fail
    generalize w1.alloc (.cells #[.int .i64 0, .slice none 0 0] 37) = wE at *
    refine (ok_true _).mono ?_
    rintro e w2 ⟨rfl, hb2⟩
    have HE2 : Hid (Fb0 w2 w1.heap.size 0 (.slice none 0 0)) := Lib.hid (keep_on hb2 HEE.out)
    have HR2 : Hid (Fb0 w2 w.heap.size 0 (.slice none 0 0)) := Lib.hid (keep_on hb2 HRE.out)
    obtain ⟨m0, m1, m2, m3⟩ := cell2 HE2.out
    obtain ⟨r0, r1, g0, g1⟩ := cell2 HR2.out
    obtain ⟨e0, e1⟩ := res_cells (c' := 0) (s' := .slice none 0 0) HR2.out
    have HFN := Lib.hid (fin_num (HXE.out.on hb2) (HKE.out.trans (Off.of_below _ hb2)) hxl hw0s 0 (.slice none 0 0))
    clear k0 k1 k2 k3 hb2
    go_wp2
    go_region_law (fail)
    all_goals
      go_wp2
      refine bodyPost_ret (v := .tuple #[.int .i64 (y : Int), .agg #[.int .i64 0, .slice none 0 0]]) ?_ rfl ⟨rfl, HFN.out.1.on (below_drew _ 1), HFN.out.2.trans (Off.of_below _ (below_drew _ 1))⟩
      simp [results, Tryd.results18, go_sem, e0, e1]
end Go.Proofs.YtpdngcjgfngnjaaDoor
