/- yardref2.Reader's U, I, B1, Bytes and Done: the document's own answers, for every row of bytes, every place and every count. -/
import Derived.Test.YtpdngcjgfngnjaaDoorRefR
import Derived.Test.YtpdngcjgfngnjaaDoorRefN
namespace Go.Proofs.YtpdngcjgfngnjaaDoor
open Go.RowKit Go.Extern.Stop Go.Stop Go.Extern

set_option maxRecDepth 100000 in
theorem turned0 (ao : Option Addr) (cap : Nat) (w : World) : Calls Tryd.prog 51 #[.slice ao 0 cap] w fun e w' => e = .returned (.slice none 0 0) ∧ w = w' := by
  go_enter Tryd.func51, Tryd.ntmps51
  go_wp2
  refine wp_loop_rounds 1 ?_
  rw [rounds_succ]
  go_wp2
  go_ret
  exact ⟨rfl, rfl⟩

/-- What the document's Reader answers where a number is there. -/
def DocNum (w0 w : World) (xb : Nat) (bv : Value) (l : List UInt8) (p n : Nat) (x : Int) (e : Ending) (w' : World) : Prop :=
  e = .returned (.tuple #[.int .i64 x, .agg #[.int .i64 0, .slice none 0 0]]) ∧ XrAt w0 w' xb bv l (p + n) ∧ Off (fun k => k = xb) w w'

/-- Two stores into the result's block, behind all that was there. -/
theorem fin_below {w W : World} (hb : Below w.heap.size w W) (c : Int) (s : Value) : Below w.heap.size w ((W.setCell ⟨w.heap.size, 0, none⟩ (.int .i64 c)).setCell ⟨w.heap.size, 1, none⟩ s) := (hb.setCell (Nat.le_refl _) _).setCell (Nat.le_refl _) _
theorem fin_num {w0 w W : World} {xb : Nat} {bv : Value} {l : List UInt8} {q : Nat} (hx : XrAt w0 W xb bv l q) (hk : Off (fun k => k = xb) w W) (hxl : xb < w.heap.size) (hbase : w0.heap.size ≤ w.heap.size) (c : Int) (s : Value) :
    XrAt w0 ((W.setCell ⟨w.heap.size, 0, none⟩ (.int .i64 c)).setCell ⟨w.heap.size, 1, none⟩ s) xb bv l q ∧ Off (fun k => k = xb) w ((W.setCell ⟨w.heap.size, 0, none⟩ (.int .i64 c)).setCell ⟨w.heap.size, 1, none⟩ s) := by
  have k2 : Off (fun k => k = w.heap.size) W ((W.setCell ⟨w.heap.size, 0, none⟩ (.int .i64 c)).setCell ⟨w.heap.size, 1, none⟩ s) := (Off.set (fun k => k = w.heap.size) W ⟨w.heap.size, 0, none⟩ _ rfl).trans (Off.set _ _ ⟨w.heap.size, 1, none⟩ _ rfl)
  refine ⟨hx.off k2 (show ¬ xb = w.heap.size by omega) (fun k e => by subst e; exact hbase), ?_⟩
  exact ⟨k2.os.trans hk.os, k2.tape.trans hk.tape, k2.output.trans hk.output, Nat.le_trans hk.size k2.size, fun k hk' hx' => (k2.block k (Nat.lt_of_lt_of_le hk' hk.size) (show ¬ k = w.heap.size by omega)).trans (hk.block k hk' hx')⟩

set_option maxRecDepth 100000 in
set_option maxHeartbeats 2000000 in
theorem ru_range (xb : Nat) (bv : Value) (l : List UInt8) (p : Nat) (n : Int) (w0 w : World) (h : XrAt w0 w xb bv l p) (hn : ¬ (1 ≤ n ∧ n ≤ 6)) :
    Calls Tryd.prog 16 #[.pointer (some ⟨xb, 0, none⟩), .int .i64 n] w (DocBad w p 1 (.int .i64 0)) := by
  have HB0 : Hid (Below w.heap.size w (w.alloc (.cells #[.int .i64 0, .slice none 0 0] 37))) := Lib.hid (below_new _ _)
  have H0 := Lib.hid (h.on HB0.out)
  have HRB : Hid (Fb0 (w.alloc (.cells #[.int .i64 0, .slice none 0 0] 37)) w.heap.size 0 (.slice none 0 0)) := Lib.hid (heap_alloc_new w _)
  have hxl : xb < w.heap.size := h.lt
  have hw0s : w0.heap.size ≤ w.heap.size := h.below.size
  clear h
  by_cases hn1 : n < 1
  · clear hn
    go_enter Tryd.func16, Tryd.ntmps16
    go_wp2_with fail
    generalize w.alloc (.cells #[.int .i64 0, .slice none 0 0] 37) = wa at *
    refine (rfail_any xb bv l p 1 w0 wa H0.out).mono ?_
    rintro e w1 ⟨g, rfl, hst, hb⟩
    have HB1 : Hid (Below wa.heap.size wa w1) := Lib.hid hb
    have hres : Fb0 w1 w.heap.size 0 (.slice none 0 0) := keep_on hb HRB.out
    obtain ⟨r0, r1, g0, g1⟩ := cell2 hres
    obtain ⟨e0, e1⟩ := res_cells (c' := 1) (s' := .slice (some ⟨g, 0, none⟩) 1 1) hres
    have HS2 := Lib.hid (res_steps (c' := 1) (s' := .slice (some ⟨g, 0, none⟩) 1 1) hres hst)
    clear hst hb hres
    go_wp2
    refine bodyPost_ret (v := .tuple #[.int .i64 0, .agg #[.int .i64 1, .slice (some ⟨g, 0, none⟩) 1 1]]) ?_ rfl ⟨g, rfl, HS2.out, fin_below (HB0.out.trans (HB1.out.mono HB0.out.size)) _ _⟩
    simp [results, Tryd.results16, go_sem, e0, e1]
  · have hn2 : 6 < n := by omega
    clear hn
    go_enter Tryd.func16, Tryd.ntmps16
    go_wp2_with fail
    generalize w.alloc (.cells #[.int .i64 0, .slice none 0 0] 37) = wa at *
    refine (rfail_any xb bv l p 1 w0 wa H0.out).mono ?_
    rintro e w1 ⟨g, rfl, hst, hb⟩
    have HB1 : Hid (Below wa.heap.size wa w1) := Lib.hid hb
    have hres : Fb0 w1 w.heap.size 0 (.slice none 0 0) := keep_on hb HRB.out
    obtain ⟨r0, r1, g0, g1⟩ := cell2 hres
    obtain ⟨e0, e1⟩ := res_cells (c' := 1) (s' := .slice (some ⟨g, 0, none⟩) 1 1) hres
    have HS2 := Lib.hid (res_steps (c' := 1) (s' := .slice (some ⟨g, 0, none⟩) 1 1) hres hst)
    clear hst hb hres
    go_wp2
    refine bodyPost_ret (v := .tuple #[.int .i64 0, .agg #[.int .i64 1, .slice (some ⟨g, 0, none⟩) 1 1]]) ?_ rfl ⟨g, rfl, HS2.out, fin_below (HB0.out.trans (HB1.out.mono HB0.out.size)) _ _⟩
    simp [results, Tryd.results16, go_sem, e0, e1]

set_option maxRecDepth 100000 in
set_option maxHeartbeats 2000000 in
theorem ru_short (xb : Nat) (bv : Value) (l : List UInt8) (p : Nat) (n : Int) (w0 w : World) (h : XrAt w0 w xb bv l p) (hn1 : 1 ≤ n) (hn2 : n ≤ 6) (hs : ((l.length - p : Nat) : Int) < n) :
    Calls Tryd.prog 16 #[.pointer (some ⟨xb, 0, none⟩), .int .i64 n] w (DocBad w p 2 (.int .i64 0)) := by
  have HB0 : Hid (Below w.heap.size w (w.alloc (.cells #[.int .i64 0, .slice none 0 0] 37))) := Lib.hid (below_new _ _)
  have H0 := Lib.hid (h.on HB0.out)
  have HRB : Hid (Fb0 (w.alloc (.cells #[.int .i64 0, .slice none 0 0] 37)) w.heap.size 0 (.slice none 0 0)) := Lib.hid (heap_alloc_new w _)
  have hxl : xb < w.heap.size := h.lt
  have hw0s : w0.heap.size ≤ w.heap.size := h.below.size
  clear h
  have HSH := Lib.hid hs
  clear hs
  go_enter Tryd.func16, Tryd.ntmps16
  go_wp2_with fail
  generalize w.alloc (.cells #[.int .i64 0, .slice none 0 0] 37) = wa at *
  refine (rtake_short xb bv l p n w0 wa H0.out HSH.out).mono ?_
  rintro e w1 ⟨g, rfl, hst, hb⟩
  have HB1 : Hid (Below wa.heap.size wa w1) := Lib.hid hb
  have hbe : Below w1.heap.size w1 (w1.alloc (.cells #[.int .i64 2, .slice (some ⟨g, 0, none⟩) 1 1] 37)) := below_new _ _
  have HRE : Hid (Fb0 (w1.alloc (.cells #[.int .i64 2, .slice (some ⟨g, 0, none⟩) 1 1] 37)) w.heap.size 0 (.slice none 0 0)) := Lib.hid (keep_on hbe (keep_on hb HRB.out))
  have HEE : Hid (Fb0 (w1.alloc (.cells #[.int .i64 2, .slice (some ⟨g, 0, none⟩) 1 1] 37)) w1.heap.size 2 (.slice (some ⟨g, 0, none⟩) 1 1)) := Lib.hid (heap_alloc_new w1 _)
  have HSE := Lib.hid (hst.on hbe)
  have HBE : Hid (Below w.heap.size w (w1.alloc (.cells #[.int .i64 2, .slice (some ⟨g, 0, none⟩) 1 1] 37))) := Lib.hid (HB0.out.trans ((hb.trans (hbe.mono hb.size)).mono HB0.out.size))
  clear hst hb hbe
  go_wp2
  generalize w1.alloc (.cells #[.int .i64 2, .slice (some ⟨g, 0, none⟩) 1 1] 37) = wE at *
  obtain ⟨k0, k1, k2, k3⟩ := cell2 HEE.out
  obtain ⟨r0, r1, g0, g1⟩ := cell2 HRE.out
  obtain ⟨e0, e1⟩ := res_cells (c' := 2) (s' := .slice (some ⟨g, 0, none⟩) 1 1) HRE.out
  have HS2 := Lib.hid (res_steps (c' := 2) (s' := .slice (some ⟨g, 0, none⟩) 1 1) HRE.out HSE.out)
  go_region_law ((go_simp; go_at_call 47; refine (num_any _ [] _ (bytes_nil _ _ _) (by simp)).mono ?_; rintro e w9 ⟨rfl, rfl⟩; rw [show leNum [] = 0 from rfl]; simp only []))
  all_goals
    go_wp2
    refine bodyPost_ret (v := .tuple #[.int .i64 0, .agg #[.int .i64 2, .slice (some ⟨g, 0, none⟩) 1 1]]) ?_ rfl ⟨g, rfl, HS2.out.on (below_drew _ 1), (fin_below HBE.out _ _).drew⟩
    simp [results, Tryd.results16, go_sem, e0, e1]

set_option maxRecDepth 100000 in
set_option maxHeartbeats 4000000 in
theorem ru_ok (xb : Nat) (bv : Value) (l : List UInt8) (p n : Nat) (w0 w : World) (h : XrAt w0 w xb bv l p) (hn1 : 1 ≤ n) (hn2 : n ≤ 6) (hs : p + n ≤ l.length) :
    Calls Tryd.prog 16 #[.pointer (some ⟨xb, 0, none⟩), .int .i64 (n : Int)] w (DocNum w0 w xb bv l p n (leNum ((l.drop p).take n) : Nat)) := by
  have HB0 : Hid (Below w.heap.size w (w.alloc (.cells #[.int .i64 0, .slice none 0 0] 37))) := Lib.hid (below_new _ _)
  have H0 := Lib.hid (h.on HB0.out)
  have HRB : Hid (Fb0 (w.alloc (.cells #[.int .i64 0, .slice none 0 0] 37)) w.heap.size 0 (.slice none 0 0)) := Lib.hid (heap_alloc_new w _)
  have hxl : xb < w.heap.size := h.lt
  have hw0s : w0.heap.size ≤ w.heap.size := h.below.size
  clear h
  have HN := Lib.hid hs
  have HM := Lib.hid (And.intro hn1 hn2)
  have hxne : w.heap.size ≠ xb := by omega
  clear hs
  go_enter Tryd.func16, Tryd.ntmps16
  go_wp2_with fail
  generalize w.alloc (.cells #[.int .i64 0, .slice none 0 0] 37) = wa at *
  refine (rtake_ok xb bv l p n w0 wa H0.out HN.out).mono ?_
  rintro e w1 ⟨⟨x, rfl, hx⟩, hr, ho⟩
  have hbx := bytesAt_own (l := (l.drop p).take n) (by rw [cut_length l p n HN.out]; exact hx)
  obtain ⟨ax, cx, rfl⟩ := row_form hx
  have hbe : Below w1.heap.size w1 (w1.alloc (.cells #[.int .i64 0, .slice none 0 0] 37)) := below_new _ _
  have hr1 : Fb0 w1 w.heap.size 0 (.slice none 0 0) := (ho.block w.heap.size (lt_heap HRB.out) hxne).trans HRB.out
  have HRE : Hid (Fb0 (w1.alloc (.cells #[.int .i64 0, .slice none 0 0] 37)) w.heap.size 0 (.slice none 0 0)) := Lib.hid (keep_on hbe hr1)
  have HEE : Hid (Fb0 (w1.alloc (.cells #[.int .i64 0, .slice none 0 0] 37)) w1.heap.size 0 (.slice none 0 0)) := Lib.hid (heap_alloc_new w1 _)
  have HBR := Lib.hid (hbx.on hbe)
  have HXE := Lib.hid (hr.on hbe)
  have HKE : Hid (Off (fun k => k = xb) w (w1.alloc (.cells #[.int .i64 0, .slice none 0 0] 37))) := Lib.hid (((Off.of_below _ HB0.out).trans ho).trans (Off.of_below _ hbe))
  clear hx hr ho hbe hbx hr1
  go_wp2
  generalize w1.alloc (.cells #[.int .i64 0, .slice none 0 0] 37) = wE at *
  obtain ⟨k0, k1, k2, k3⟩ := cell2 HEE.out
  obtain ⟨r0, r1, g0, g1⟩ := cell2 HRE.out
  go_region_law ((go_simp; go_at_call 47; refine (num_any _ _ _ (HBR.out.on (below_drew wE 1)) ?_).mono ?_; (rw [cut_length l p n HN.out]; exact HM.out.2); rintro e w9 ⟨rfl, rfl⟩; simp only []))
  all_goals
    have HFN := Lib.hid (fin_num HXE.out HKE.out hxl hw0s 0 (.slice none 0 0))
    obtain ⟨e0, e1⟩ := res_cells (c' := 0) (s' := .slice none 0 0) (keep_on (below_drew wE 1) HRE.out)
    go_wp2
    refine bodyPost_ret (v := .tuple #[.int .i64 (leNum ((l.drop p).take n) : Nat), .agg #[.int .i64 0, .slice none 0 0]]) ?_ rfl ⟨rfl, HFN.out.1.on (below_drew _ 1), HFN.out.2.trans (Off.of_below _ (below_drew _ 1))⟩
    simp [results, Tryd.results16, go_sem, e0, e1]

set_option maxRecDepth 100000 in
set_option maxHeartbeats 2000000 in
theorem rb_range (xb : Nat) (bv : Value) (l : List UInt8) (p : Nat) (n : Int) (w0 w : World) (h : XrAt w0 w xb bv l p) (hn : ¬ (1 ≤ n ∧ n ≤ 6)) :
    Calls Tryd.prog 20 #[.pointer (some ⟨xb, 0, none⟩), .int .i64 n] w (DocBad w p 1 (.int .i64 0)) := by
  have HB0 : Hid (Below w.heap.size w (w.alloc (.cells #[.int .i64 0, .slice none 0 0] 37))) := Lib.hid (below_new _ _)
  have H0 := Lib.hid (h.on HB0.out)
  have HRB : Hid (Fb0 (w.alloc (.cells #[.int .i64 0, .slice none 0 0] 37)) w.heap.size 0 (.slice none 0 0)) := Lib.hid (heap_alloc_new w _)
  have hxl : xb < w.heap.size := h.lt
  have hw0s : w0.heap.size ≤ w.heap.size := h.below.size
  clear h
  by_cases hn1 : n < 1
  · clear hn
    go_enter Tryd.func20, Tryd.ntmps20
    go_wp2_with fail
    generalize w.alloc (.cells #[.int .i64 0, .slice none 0 0] 37) = wa at *
    refine (rfail_any xb bv l p 1 w0 wa H0.out).mono ?_
    rintro e w1 ⟨g, rfl, hst, hb⟩
    have HB1 : Hid (Below wa.heap.size wa w1) := Lib.hid hb
    have hres : Fb0 w1 w.heap.size 0 (.slice none 0 0) := keep_on hb HRB.out
    obtain ⟨r0, r1, g0, g1⟩ := cell2 hres
    obtain ⟨e0, e1⟩ := res_cells (c' := 1) (s' := .slice (some ⟨g, 0, none⟩) 1 1) hres
    have HS2 := Lib.hid (res_steps (c' := 1) (s' := .slice (some ⟨g, 0, none⟩) 1 1) hres hst)
    clear hst hb hres
    go_wp2
    refine bodyPost_ret (v := .tuple #[.int .i64 0, .agg #[.int .i64 1, .slice (some ⟨g, 0, none⟩) 1 1]]) ?_ rfl ⟨g, rfl, HS2.out, fin_below (HB0.out.trans (HB1.out.mono HB0.out.size)) _ _⟩
    simp [results, Tryd.results20, go_sem, e0, e1]
  · have hn2 : 6 < n := by omega
    clear hn
    go_enter Tryd.func20, Tryd.ntmps20
    go_wp2_with fail
    generalize w.alloc (.cells #[.int .i64 0, .slice none 0 0] 37) = wa at *
    refine (rfail_any xb bv l p 1 w0 wa H0.out).mono ?_
    rintro e w1 ⟨g, rfl, hst, hb⟩
    have HB1 : Hid (Below wa.heap.size wa w1) := Lib.hid hb
    have hres : Fb0 w1 w.heap.size 0 (.slice none 0 0) := keep_on hb HRB.out
    obtain ⟨r0, r1, g0, g1⟩ := cell2 hres
    obtain ⟨e0, e1⟩ := res_cells (c' := 1) (s' := .slice (some ⟨g, 0, none⟩) 1 1) hres
    have HS2 := Lib.hid (res_steps (c' := 1) (s' := .slice (some ⟨g, 0, none⟩) 1 1) hres hst)
    clear hst hb hres
    go_wp2
    refine bodyPost_ret (v := .tuple #[.int .i64 0, .agg #[.int .i64 1, .slice (some ⟨g, 0, none⟩) 1 1]]) ?_ rfl ⟨g, rfl, HS2.out, fin_below (HB0.out.trans (HB1.out.mono HB0.out.size)) _ _⟩
    simp [results, Tryd.results20, go_sem, e0, e1]

set_option maxRecDepth 100000 in
set_option maxHeartbeats 2000000 in
theorem rb_short (xb : Nat) (bv : Value) (l : List UInt8) (p : Nat) (n : Int) (w0 w : World) (h : XrAt w0 w xb bv l p) (hn1 : 1 ≤ n) (hn2 : n ≤ 6) (hs : ((l.length - p : Nat) : Int) < n) :
    Calls Tryd.prog 20 #[.pointer (some ⟨xb, 0, none⟩), .int .i64 n] w (DocBad w p 2 (.int .i64 0)) := by
  have HB0 : Hid (Below w.heap.size w (w.alloc (.cells #[.int .i64 0, .slice none 0 0] 37))) := Lib.hid (below_new _ _)
  have H0 := Lib.hid (h.on HB0.out)
  have HRB : Hid (Fb0 (w.alloc (.cells #[.int .i64 0, .slice none 0 0] 37)) w.heap.size 0 (.slice none 0 0)) := Lib.hid (heap_alloc_new w _)
  have hxl : xb < w.heap.size := h.lt
  have hw0s : w0.heap.size ≤ w.heap.size := h.below.size
  clear h
  have HSH := Lib.hid hs
  clear hs
  go_enter Tryd.func20, Tryd.ntmps20
  go_wp2_with fail
  generalize w.alloc (.cells #[.int .i64 0, .slice none 0 0] 37) = wa at *
  refine (rtake_short xb bv l p n w0 wa H0.out HSH.out).mono ?_
  rintro e w1 ⟨g, rfl, hst, hb⟩
  have HB1 : Hid (Below wa.heap.size wa w1) := Lib.hid hb
  have hbe : Below w1.heap.size w1 (w1.alloc (.cells #[.int .i64 2, .slice (some ⟨g, 0, none⟩) 1 1] 37)) := below_new _ _
  have HRE : Hid (Fb0 (w1.alloc (.cells #[.int .i64 2, .slice (some ⟨g, 0, none⟩) 1 1] 37)) w.heap.size 0 (.slice none 0 0)) := Lib.hid (keep_on hbe (keep_on hb HRB.out))
  have HEE : Hid (Fb0 (w1.alloc (.cells #[.int .i64 2, .slice (some ⟨g, 0, none⟩) 1 1] 37)) w1.heap.size 2 (.slice (some ⟨g, 0, none⟩) 1 1)) := Lib.hid (heap_alloc_new w1 _)
  have HSE := Lib.hid (hst.on hbe)
  have HBE : Hid (Below w.heap.size w (w1.alloc (.cells #[.int .i64 2, .slice (some ⟨g, 0, none⟩) 1 1] 37))) := Lib.hid (HB0.out.trans ((hb.trans (hbe.mono hb.size)).mono HB0.out.size))
  clear hst hb hbe
  go_wp2
  generalize w1.alloc (.cells #[.int .i64 2, .slice (some ⟨g, 0, none⟩) 1 1] 37) = wE at *
  obtain ⟨k0, k1, k2, k3⟩ := cell2 HEE.out
  obtain ⟨r0, r1, g0, g1⟩ := cell2 HRE.out
  obtain ⟨e0, e1⟩ := res_cells (c' := 2) (s' := .slice (some ⟨g, 0, none⟩) 1 1) HRE.out
  have HS2 := Lib.hid (res_steps (c' := 2) (s' := .slice (some ⟨g, 0, none⟩) 1 1) HRE.out HSE.out)
  go_region_law (first | (go_simp; go_at_call 51; refine (turned0 _ _ _).mono ?_; rintro e w8 ⟨rfl, rfl⟩; simp only []) | (go_simp; go_at_call 47; refine (num_any _ [] _ (bytes_nil _ _ _) (by simp)).mono ?_; rintro e w9 ⟨rfl, rfl⟩; rw [show leNum [] = 0 from rfl]; simp only []))
  all_goals
    go_wp2
    refine bodyPost_ret (v := .tuple #[.int .i64 0, .agg #[.int .i64 2, .slice (some ⟨g, 0, none⟩) 1 1]]) ?_ rfl ⟨g, rfl, HS2.out.on (below_drew _ 1), (fin_below HBE.out _ _).drew⟩
    simp [results, Tryd.results20, go_sem, e0, e1]

set_option maxRecDepth 100000 in
set_option maxHeartbeats 4000000 in
theorem rb_ok (xb : Nat) (bv : Value) (l : List UInt8) (p n : Nat) (w0 w : World) (h : XrAt w0 w xb bv l p) (hn1 : 1 ≤ n) (hn2 : n ≤ 6) (hs : p + n ≤ l.length) :
    Calls Tryd.prog 20 #[.pointer (some ⟨xb, 0, none⟩), .int .i64 (n : Int)] w (DocNum w0 w xb bv l p n (leNum ((l.drop p).take n).reverse : Nat)) := by
  have HB0 : Hid (Below w.heap.size w (w.alloc (.cells #[.int .i64 0, .slice none 0 0] 37))) := Lib.hid (below_new _ _)
  have H0 := Lib.hid (h.on HB0.out)
  have HRB : Hid (Fb0 (w.alloc (.cells #[.int .i64 0, .slice none 0 0] 37)) w.heap.size 0 (.slice none 0 0)) := Lib.hid (heap_alloc_new w _)
  have hxl : xb < w.heap.size := h.lt
  have hw0s : w0.heap.size ≤ w.heap.size := h.below.size
  clear h
  have HN := Lib.hid hs
  have HM := Lib.hid (And.intro hn1 hn2)
  have hxne : w.heap.size ≠ xb := by omega
  clear hs
  go_enter Tryd.func20, Tryd.ntmps20
  go_wp2_with fail
  generalize w.alloc (.cells #[.int .i64 0, .slice none 0 0] 37) = wa at *
  refine (rtake_ok xb bv l p n w0 wa H0.out HN.out).mono ?_
  rintro e w1 ⟨⟨x, rfl, hx⟩, hr, ho⟩
  have hbx := bytesAt_own (l := (l.drop p).take n) (by rw [cut_length l p n HN.out]; exact hx)
  obtain ⟨ax, cx, rfl⟩ := row_form hx
  have hbe : Below w1.heap.size w1 (w1.alloc (.cells #[.int .i64 0, .slice none 0 0] 37)) := below_new _ _
  have hr1 : Fb0 w1 w.heap.size 0 (.slice none 0 0) := (ho.block w.heap.size (lt_heap HRB.out) hxne).trans HRB.out
  have HRE : Hid (Fb0 (w1.alloc (.cells #[.int .i64 0, .slice none 0 0] 37)) w.heap.size 0 (.slice none 0 0)) := Lib.hid (keep_on hbe hr1)
  have HEE : Hid (Fb0 (w1.alloc (.cells #[.int .i64 0, .slice none 0 0] 37)) w1.heap.size 0 (.slice none 0 0)) := Lib.hid (heap_alloc_new w1 _)
  have HBR := Lib.hid (hbx.on hbe)
  have HXE := Lib.hid (hr.on hbe)
  have HKE : Hid (Off (fun k => k = xb) w (w1.alloc (.cells #[.int .i64 0, .slice none 0 0] 37))) := Lib.hid (((Off.of_below _ HB0.out).trans ho).trans (Off.of_below _ hbe))
  clear hx hr ho hbe hbx hr1
  go_wp2
  generalize w1.alloc (.cells #[.int .i64 0, .slice none 0 0] 37) = wE at *
  obtain ⟨k0, k1, k2, k3⟩ := cell2 HEE.out
  obtain ⟨r0, r1, g0, g1⟩ := cell2 HRE.out
  go_region_law (first
    | (go_simp; go_at_call 51; refine (turned_any _ _ _ (HBR.out.on (below_drew wE 1)) ?_ ?_).mono ?_; (rw [cut_length l p n HN.out]; exact HM.out.1); (rw [cut_length l p n HN.out]; exact HM.out.2); rintro e w8 ⟨vt, rfl, ht, hb8⟩; have HT8 := Lib.hid (bytesAt_own ht); rw [List.length_reverse, cut_length l p n HN.out] at ht; obtain ⟨at_, ct, rfl⟩ := row_form ht; have hb8' : Below wE.heap.size wE w8 := (Below.refl wE.heap.size wE).drew.trans hb8; have HE8 : Hid (Fb0 w8 w1.heap.size 0 (.slice none 0 0)) := Lib.hid (keep_on hb8' HEE.out); have HR8 : Hid (Fb0 w8 w.heap.size 0 (.slice none 0 0)) := Lib.hid (keep_on hb8' HRE.out); have HX8 := Lib.hid (HXE.out.on hb8'); have HK8 := Lib.hid (HKE.out.trans (Off.of_below _ hb8')); obtain ⟨m0, m1, m2, m3⟩ := cell2 HE8.out; obtain ⟨s0, s1, s2, s3⟩ := cell2 HR8.out; clear ht hb8 hb8'; simp only [])
    | (go_simp; go_at_call 47; refine (num_any _ _ _ HT8.out ?_).mono ?_; (rw [List.length_reverse, cut_length l p n HN.out]; exact HM.out.2); rintro e w9 ⟨rfl, rfl⟩; simp only []))
  all_goals
    have HFN := Lib.hid (fin_num HX8.out HK8.out hxl hw0s 0 (.slice none 0 0))
    obtain ⟨e0, e1⟩ := res_cells (c' := 0) (s' := .slice none 0 0) HR8.out
    clear k0 k1 k2 k3 r0 r1 g0 g1
    go_wp2
    refine bodyPost_ret (v := .tuple #[.int .i64 (leNum ((l.drop p).take n).reverse : Nat), .agg #[.int .i64 0, .slice none 0 0]]) ?_ rfl ⟨rfl, HFN.out.1, HFN.out.2⟩
    simp [results, Tryd.results20, go_sem, e0, e1]
end Go.Proofs.YtpdngcjgfngnjaaDoor
