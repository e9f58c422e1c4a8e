/- yardref7.Answer. -/
import Derived.Test.YtngfaailbkadfaaDoorS2
import Derived.Test.YtngfaailbkadfaaDoorS0
namespace Go.Proofs.YtngfaailbkadfaaDoor
open Go.RowKit Go.Extern.Stop Go.Stop Go.Extern

/-- Answer's three boxes: the request, the reply, the error. -/
structure AB (w W : World) (f s c : Int) (u : Value) (code : Int) (pv : Value) : Prop where
  q : BoxQ W w.heap.size f s c u
  p : BoxS W (w.heap.size + 1) code pv
  e : BoxE W (w.heap.size + 2) 0 (.slice none 0 0)
  below : Below w.heap.size w W
theorem AB.on {w W W' : World} {f s c : Int} {u : Value} {code : Int} {pv : Value} (h : AB w W f s c u code pv) (hb : Below W.heap.size W W') : AB w W' f s c u code pv := ⟨h.q.on hb, h.p.on hb, h.e.on hb, h.below.trans (hb.mono h.below.size)⟩
theorem ab_new (w : World) (f s c : Int) (u : Value) (code : Int) (pv : Value) : AB w (((w.alloc (.cells #[.int .i64 f, .int .i64 s, .int .i64 c, u] 38)).alloc (.cells #[.int .i64 code, pv] 55)).alloc (.cells #[.int .i64 0, .slice none 0 0] 35)) f s c u code pv := by
  have h := rb_new w f s c u code pv
  have h2 := h.on (below_new _ (.cells #[.int .i64 0, .slice none 0 0] 35))
  have hs : ((w.alloc (.cells #[.int .i64 f, .int .i64 s, .int .i64 c, u] 38)).alloc (.cells #[.int .i64 code, pv] 55)).heap.size = w.heap.size + 2 := by simp
  refine ⟨h2.1, h2.2.1, ?_, h2.2.2⟩
  rw [← hs]; exact heap_alloc_new _ _
/-- A row of bytes is no Err's box. -/
theorem bytes_fin2 {W : World} {v : Value} {l : List UInt8} {k : Nat} {c0 : Int} {a0 : Option Addr} {n0 m0 : Nat} (h : BytesAt W v l) (hb : BoxE W k c0 (.slice a0 n0 m0)) (c : Int) (V : Value) : BytesAt (fin2 W k c V) v l := by
  obtain ⟨ao, cap, hv, hc⟩ := h
  refine ⟨ao, cap, hv, fun i hi => ?_⟩
  obtain ⟨b, off, ha, hcell⟩ := hc i hi
  refine ⟨b, off, ha, ?_⟩
  have hne : b ≠ k := fun e => by
    subst e
    obtain ⟨c1, c2, _, _⟩ := hb.cells
    have hh : W.heap[b]? = some (.cells #[.int .i64 c0, .slice a0 n0 m0] 35 (0, 0)) := hb
    rw [cell_of_row _ _ _ _ _ _ hh] at hcell
    rcases (show off + i = 0 ∨ off + i = 1 ∨ 2 ≤ off + i by omega) with e | e | e
    · rw [e] at hcell; simp at hcell
    · rw [e] at hcell; simp at hcell
    · rw [Array.getElem?_eq_none (by simpa using e)] at hcell; cases hcell
  have hb2 : (fin2 W k c V).heap[b]? = W.heap[b]? := (fin2_off W k c V).block b (lt_cell hcell) (fun e => hne e)
  simp only [World.cell?, hb2]
  exact hcell
def ansL (r : Rq) (p : Rp) : List UInt8 := if (r.may && mayR r p) = true then ansF r p else []
/-- Answer's refusal, and its answer. -/
def RAns (w : World) (ok : Bool) (x : Int) (l : List UInt8) (e : Ending) (w' : World) : Prop := ∃ a n fc fa fn fm, e = .returned (.tuple #[.slice a l.length n, .agg #[.int .i64 fc, .slice fa fn fm]]) ∧ BytesAt w' (.slice a l.length n) l ∧ FvIs ok x 1 w' fc (.slice fa fn fm) ∧ Below w.heap.size w w'
theorem ans_fin {w wa : World} {f s c : Int} {u : Value} {code : Int} {pv : Value} {g : Nat} (h : AB w wa f s c u code pv) (hs : StepsOwn wa (.slice (some ⟨g, 0, none⟩) 1 1) [(sPdu, f)]) (hg : g ≠ w.heap.size + 2) :
    BoxE (fin2 wa (w.heap.size + 2) 1 (.slice (some ⟨g, 0, none⟩) 1 1)) (w.heap.size + 2) 1 (.slice (some ⟨g, 0, none⟩) 1 1) ∧ RAns w false f [] (.returned (.tuple #[.slice none 0 0, .agg #[.int .i64 1, .slice (some ⟨g, 0, none⟩) 1 1]])) (fin2 wa (w.heap.size + 2) 1 (.slice (some ⟨g, 0, none⟩) 1 1)) :=
  ⟨fin2_box h.e _ _, none, 0, 1, _, _, _, rfl, bytes_empty _, .inr ⟨rfl, rfl, hs.off (fin2_off _ _ _ _) hg⟩, fin2_below h.below _ (by omega) _ _⟩
theorem mk_ans (w w0 : World) {f s c : Int} {u : Value} {code : Int} {pv : Value} (h : AB w w0 f s c u code pv) : Calls Tryd.prog 30 #[.string sPdu, .int .i64 f, .int .i64 1] w0 fun e wa => ∃ g : Nat, e = .returned (.agg #[.int .i64 1, .slice (some ⟨g, 0, none⟩) 1 1]) ∧ Hid (AB w wa f s c u code pv ∧ StepsOwn wa (.slice (some ⟨g, 0, none⟩) 1 1) [(sPdu, f)] ∧ g ≠ w.heap.size + 2) := by
  refine (mk_any sPdu f 1 w0).mono ?_
  rintro e wa ⟨⟨g, rfl, hs, hg⟩, hb⟩
  have h2 := lt_heap h.e
  exact ⟨g, rfl, Lib.hid ⟨h.on hb, hs, by omega⟩⟩

set_option maxRecDepth 100000 in
set_option maxHeartbeats 4000000 in
theorem rans_may (r : Rq) (p : Rp) (ua pa : Option Addr) (un pn : Nat) (w : World) (hv : IntsAt w (.slice ua r.vs.length un) r.vs) (hp : IntsAt w (.slice pa p.vs.length pn) p.vs) (hl : r.vs.length ≤ 3000) (hlp : p.vs.length ≤ 3000) (hm : r.may = false) : Calls Tryd.prog 19 #[.agg #[.int .i64 r.f, .int .i64 r.s, .int .i64 r.c, .slice ua r.vs.length un], .agg #[.int .i64 p.code, .slice pa p.vs.length pn]] w (RAns w false r.f ([])) := by
  have HMM : Hid (mayB r.f r.s r.c r.vs = false) := Lib.hid hm
  clear hm
  obtain ⟨f, s, c, us⟩ := r
  obtain ⟨code, vs⟩ := p
  dsimp only at *
  have HV := Lib.hid hv
  have HP := Lib.hid hp
  have HL := Lib.hid (And.intro hl hlp)
  obtain ⟨wx, hwx⟩ : ∃ wx, wx = ((w.alloc (.cells #[.int .i64 f, .int .i64 s, .int .i64 c, .slice ua us.length un] 38)).alloc (.cells #[.int .i64 code, .slice pa vs.length pn] 55)).alloc (.cells #[.int .i64 0, .slice none 0 0] 35) := ⟨_, rfl⟩
  have A0 : Hid (AB w wx f s c (.slice ua us.length un) code (.slice pa vs.length pn)) := Lib.hid (by rw [hwx]; exact ab_new _ _ _ _ _ _ _)
  have q0 : (((w.alloc (.cells #[.int .i64 f, .int .i64 s, .int .i64 c, .slice ua us.length un] 38)).alloc (.cells #[.int .i64 code, .slice pa vs.length pn] 55)).alloc (.cells #[.int .i64 0, .slice none 0 0] 35)).cell? ⟨w.heap.size, 0, none⟩ = some (.int .i64 f) := by rw [← hwx]; exact A0.out.q.cells.1
  have q1 : (((w.alloc (.cells #[.int .i64 f, .int .i64 s, .int .i64 c, .slice ua us.length un] 38)).alloc (.cells #[.int .i64 code, .slice pa vs.length pn] 55)).alloc (.cells #[.int .i64 0, .slice none 0 0] 35)).cell? ⟨w.heap.size, 1, none⟩ = some (.int .i64 s) := by rw [← hwx]; exact A0.out.q.cells.2.1
  have q2 : (((w.alloc (.cells #[.int .i64 f, .int .i64 s, .int .i64 c, .slice ua us.length un] 38)).alloc (.cells #[.int .i64 code, .slice pa vs.length pn] 55)).alloc (.cells #[.int .i64 0, .slice none 0 0] 35)).cell? ⟨w.heap.size, 2, none⟩ = some (.int .i64 c) := by rw [← hwx]; exact A0.out.q.cells.2.2.1
  have q3 : (((w.alloc (.cells #[.int .i64 f, .int .i64 s, .int .i64 c, .slice ua us.length un] 38)).alloc (.cells #[.int .i64 code, .slice pa vs.length pn] 55)).alloc (.cells #[.int .i64 0, .slice none 0 0] 35)).cell? ⟨w.heap.size, 3, none⟩ = some (.slice ua us.length un) := by rw [← hwx]; exact A0.out.q.cells.2.2.2
  clear hv hp hl hlp
  go_enter Tryd.func19, Tryd.ntmps19
  go_wp2_with fail
  rw [← hwx]
  clear hwx q0 q1 q2 q3
  refine (rmay_any f s c _ us wx (HV.out.on A0.out.below) (by have := HL.out; omega)).mono ?_
  rintro e w1 ⟨rfl, hb⟩
  rw [HMM.out]
  have A1 := Lib.hid (A0.out.on hb)
  clear hb
  obtain ⟨c0, c1, c2, c3⟩ := A1.out.q.cells
  obtain ⟨d0, d1, _, _⟩ := A1.out.p.cells
  go_wp2_with fail
  refine (mk_ans w _ A1.out).mono ?_
  rintro e wa ⟨g, rfl, HA⟩
  (try clear c0 c1 c2 c3)
  obtain ⟨c0, c1, f0, f1⟩ := HA.out.1.e.cells
  have HF := Lib.hid (ans_fin HA.out.1 HA.out.2.1 HA.out.2.2)
  unfold fin2 at HF
  go_wp2
  generalize (World.setCell (World.setCell wa _ _) _ _) = W at HF ⊢
  obtain ⟨d0, d1, _, _⟩ := HF.out.1.cells
  refine bodyPost_ret (v := .tuple #[.slice none 0 0, .agg #[.int .i64 1, .slice (some ⟨g, 0, none⟩) 1 1]]) ?_ rfl HF.out.2
  simp [results, Tryd.results19, go_sem, d0, d1]

set_option maxRecDepth 100000 in
set_option maxHeartbeats 4000000 in
theorem rans_right (r : Rq) (p : Rp) (ua pa : Option Addr) (un pn : Nat) (w : World) (hv : IntsAt w (.slice ua r.vs.length un) r.vs) (hp : IntsAt w (.slice pa p.vs.length pn) p.vs) (hl : r.vs.length ≤ 3000) (hlp : p.vs.length ≤ 3000) (hm : r.may = true) (hr : mayR r p = false) : Calls Tryd.prog 19 #[.agg #[.int .i64 r.f, .int .i64 r.s, .int .i64 r.c, .slice ua r.vs.length un], .agg #[.int .i64 p.code, .slice pa p.vs.length pn]] w (RAns w false r.f ([])) := by
  have HMM : Hid (mayB r.f r.s r.c r.vs = true) := Lib.hid hm
  clear hm
  have HRR : Hid (mayR ⟨r.f, r.s, r.c, r.vs⟩ ⟨p.code, p.vs⟩ = false) := Lib.hid hr
  clear hr
  obtain ⟨f, s, c, us⟩ := r
  obtain ⟨code, vs⟩ := p
  dsimp only at *
  have HV := Lib.hid hv
  have HP := Lib.hid hp
  have HL := Lib.hid (And.intro hl hlp)
  obtain ⟨wx, hwx⟩ : ∃ wx, wx = ((w.alloc (.cells #[.int .i64 f, .int .i64 s, .int .i64 c, .slice ua us.length un] 38)).alloc (.cells #[.int .i64 code, .slice pa vs.length pn] 55)).alloc (.cells #[.int .i64 0, .slice none 0 0] 35) := ⟨_, rfl⟩
  have A0 : Hid (AB w wx f s c (.slice ua us.length un) code (.slice pa vs.length pn)) := Lib.hid (by rw [hwx]; exact ab_new _ _ _ _ _ _ _)
  have q0 : (((w.alloc (.cells #[.int .i64 f, .int .i64 s, .int .i64 c, .slice ua us.length un] 38)).alloc (.cells #[.int .i64 code, .slice pa vs.length pn] 55)).alloc (.cells #[.int .i64 0, .slice none 0 0] 35)).cell? ⟨w.heap.size, 0, none⟩ = some (.int .i64 f) := by rw [← hwx]; exact A0.out.q.cells.1
  have q1 : (((w.alloc (.cells #[.int .i64 f, .int .i64 s, .int .i64 c, .slice ua us.length un] 38)).alloc (.cells #[.int .i64 code, .slice pa vs.length pn] 55)).alloc (.cells #[.int .i64 0, .slice none 0 0] 35)).cell? ⟨w.heap.size, 1, none⟩ = some (.int .i64 s) := by rw [← hwx]; exact A0.out.q.cells.2.1
  have q2 : (((w.alloc (.cells #[.int .i64 f, .int .i64 s, .int .i64 c, .slice ua us.length un] 38)).alloc (.cells #[.int .i64 code, .slice pa vs.length pn] 55)).alloc (.cells #[.int .i64 0, .slice none 0 0] 35)).cell? ⟨w.heap.size, 2, none⟩ = some (.int .i64 c) := by rw [← hwx]; exact A0.out.q.cells.2.2.1
  have q3 : (((w.alloc (.cells #[.int .i64 f, .int .i64 s, .int .i64 c, .slice ua us.length un] 38)).alloc (.cells #[.int .i64 code, .slice pa vs.length pn] 55)).alloc (.cells #[.int .i64 0, .slice none 0 0] 35)).cell? ⟨w.heap.size, 3, none⟩ = some (.slice ua us.length un) := by rw [← hwx]; exact A0.out.q.cells.2.2.2
  clear hv hp hl hlp
  go_enter Tryd.func19, Tryd.ntmps19
  go_wp2_with fail
  rw [← hwx]
  clear hwx q0 q1 q2 q3
  refine (rmay_any f s c _ us wx (HV.out.on A0.out.below) (by have := HL.out; omega)).mono ?_
  rintro e w1 ⟨rfl, hb⟩
  rw [HMM.out]
  have A1 := Lib.hid (A0.out.on hb)
  clear hb
  obtain ⟨c0, c1, c2, c3⟩ := A1.out.q.cells
  obtain ⟨d0, d1, _, _⟩ := A1.out.p.cells
  go_wp2_with fail
  refine (right_any f s c _ us code _ vs w1 (HP.out.on A1.out.below) (by have := HL.out; omega)).mono ?_
  rintro e w2 ⟨rfl, hb⟩
  rw [HRR.out]
  have A2 := Lib.hid (A1.out.on hb)
  clear hb c0 c1 c2 c3 d0 d1
  obtain ⟨c0, c1, c2, c3⟩ := A2.out.q.cells
  obtain ⟨d0, d1, _, _⟩ := A2.out.p.cells
  go_wp2_with fail
  refine (mk_ans w _ A2.out).mono ?_
  rintro e wa ⟨g, rfl, HA⟩
  (try clear c0 c1 c2 c3)
  obtain ⟨c0, c1, f0, f1⟩ := HA.out.1.e.cells
  have HF := Lib.hid (ans_fin HA.out.1 HA.out.2.1 HA.out.2.2)
  unfold fin2 at HF
  go_wp2
  generalize (World.setCell (World.setCell wa _ _) _ _) = W at HF ⊢
  obtain ⟨d0, d1, _, _⟩ := HF.out.1.cells
  refine bodyPost_ret (v := .tuple #[.slice none 0 0, .agg #[.int .i64 1, .slice (some ⟨g, 0, none⟩) 1 1]]) ?_ rfl HF.out.2
  simp [results, Tryd.results19, go_sem, d0, d1]

set_option maxRecDepth 100000 in
set_option maxHeartbeats 4000000 in
theorem rans_ok (r : Rq) (p : Rp) (ua pa : Option Addr) (un pn : Nat) (w : World) (hv : IntsAt w (.slice ua r.vs.length un) r.vs) (hp : IntsAt w (.slice pa p.vs.length pn) p.vs) (hl : r.vs.length ≤ 3000) (hlp : p.vs.length ≤ 3000) (hm : r.may = true) (hr : mayR r p = true) : Calls Tryd.prog 19 #[.agg #[.int .i64 r.f, .int .i64 r.s, .int .i64 r.c, .slice ua r.vs.length un], .agg #[.int .i64 p.code, .slice pa p.vs.length pn]] w (RAns w true r.f (ansF r p)) := by
  have HT : Hid (∀ W, IntsAt W (.slice ua r.vs.length un) r.vs → IntsAt W (.slice pa p.vs.length pn) p.vs → Calls Tryd.prog 45 #[.agg #[.int .i64 r.f, .int .i64 r.s, .int .i64 r.c, .slice ua r.vs.length un], .agg #[.int .i64 p.code, .slice pa p.vs.length pn]] W (ToldIs W (ansF r p))) := Lib.hid (fun W h1 h2 => told_any r p _ _ W h1 h2 hm hr hl hlp)
  have HMM : Hid (mayB r.f r.s r.c r.vs = true) := Lib.hid hm
  clear hm
  have HRR : Hid (mayR ⟨r.f, r.s, r.c, r.vs⟩ ⟨p.code, p.vs⟩ = true) := Lib.hid hr
  clear hr
  generalize ansF r p = out at *
  obtain ⟨f, s, c, us⟩ := r
  obtain ⟨code, vs⟩ := p
  dsimp only at *
  have HV := Lib.hid hv
  have HP := Lib.hid hp
  have HL := Lib.hid (And.intro hl hlp)
  obtain ⟨wx, hwx⟩ : ∃ wx, wx = ((w.alloc (.cells #[.int .i64 f, .int .i64 s, .int .i64 c, .slice ua us.length un] 38)).alloc (.cells #[.int .i64 code, .slice pa vs.length pn] 55)).alloc (.cells #[.int .i64 0, .slice none 0 0] 35) := ⟨_, rfl⟩
  have A0 : Hid (AB w wx f s c (.slice ua us.length un) code (.slice pa vs.length pn)) := Lib.hid (by rw [hwx]; exact ab_new _ _ _ _ _ _ _)
  have q0 : (((w.alloc (.cells #[.int .i64 f, .int .i64 s, .int .i64 c, .slice ua us.length un] 38)).alloc (.cells #[.int .i64 code, .slice pa vs.length pn] 55)).alloc (.cells #[.int .i64 0, .slice none 0 0] 35)).cell? ⟨w.heap.size, 0, none⟩ = some (.int .i64 f) := by rw [← hwx]; exact A0.out.q.cells.1
  have q1 : (((w.alloc (.cells #[.int .i64 f, .int .i64 s, .int .i64 c, .slice ua us.length un] 38)).alloc (.cells #[.int .i64 code, .slice pa vs.length pn] 55)).alloc (.cells #[.int .i64 0, .slice none 0 0] 35)).cell? ⟨w.heap.size, 1, none⟩ = some (.int .i64 s) := by rw [← hwx]; exact A0.out.q.cells.2.1
  have q2 : (((w.alloc (.cells #[.int .i64 f, .int .i64 s, .int .i64 c, .slice ua us.length un] 38)).alloc (.cells #[.int .i64 code, .slice pa vs.length pn] 55)).alloc (.cells #[.int .i64 0, .slice none 0 0] 35)).cell? ⟨w.heap.size, 2, none⟩ = some (.int .i64 c) := by rw [← hwx]; exact A0.out.q.cells.2.2.1
  have q3 : (((w.alloc (.cells #[.int .i64 f, .int .i64 s, .int .i64 c, .slice ua us.length un] 38)).alloc (.cells #[.int .i64 code, .slice pa vs.length pn] 55)).alloc (.cells #[.int .i64 0, .slice none 0 0] 35)).cell? ⟨w.heap.size, 3, none⟩ = some (.slice ua us.length un) := by rw [← hwx]; exact A0.out.q.cells.2.2.2
  clear hv hp hl hlp
  go_enter Tryd.func19, Tryd.ntmps19
  go_wp2_with fail
  rw [← hwx]
  clear hwx q0 q1 q2 q3
  refine (rmay_any f s c _ us wx (HV.out.on A0.out.below) (by have := HL.out; omega)).mono ?_
  rintro e w1 ⟨rfl, hb⟩
  rw [HMM.out]
  have A1 := Lib.hid (A0.out.on hb)
  clear hb
  obtain ⟨c0, c1, c2, c3⟩ := A1.out.q.cells
  obtain ⟨d0, d1, _, _⟩ := A1.out.p.cells
  go_wp2_with fail
  refine (right_any f s c _ us code _ vs w1 (HP.out.on A1.out.below) (by have := HL.out; omega)).mono ?_
  rintro e w2 ⟨rfl, hb⟩
  rw [HRR.out]
  have A2 := Lib.hid (A1.out.on hb)
  clear hb c0 c1 c2 c3 d0 d1
  obtain ⟨c0, c1, c2, c3⟩ := A2.out.q.cells
  obtain ⟨d0, d1, _, _⟩ := A2.out.p.cells
  go_wp2_with fail
  refine (HT.out w2 (HV.out.on A2.out.below) (HP.out.on A2.out.below)).mono ?_
  rintro e w3 ⟨ta, tn, rfl, ht, hb⟩
  have A3 := Lib.hid (A2.out.on hb)
  have T3 := Lib.hid ht
  clear hb ht c0 c1 c2 c3 d0 d1
  obtain ⟨c0, c1, f0, f1⟩ := A3.out.e.cells
  have HF : Hid (BoxE (fin2 w3 (w.heap.size + 2) 0 (.slice none 0 0)) (w.heap.size + 2) 0 (.slice none 0 0) ∧ RAns w true f out (.returned (.tuple #[.slice ta out.length tn, e0])) (fin2 w3 (w.heap.size + 2) 0 (.slice none 0 0))) := Lib.hid ⟨fin2_box A3.out.e _ _, ta, tn, 0, none, 0, 0, rfl, bytes_fin2 T3.out A3.out.e _ _, .inl ⟨rfl, rfl, rfl⟩, fin2_below A3.out.below _ (by omega) _ _⟩
  unfold fin2 at HF
  go_wp2
  generalize (World.setCell (World.setCell w3 _ _) _ _) = W at HF ⊢
  obtain ⟨d0, d1, _, _⟩ := HF.out.1.cells
  refine bodyPost_ret (v := .tuple #[.slice ta out.length tn, e0]) ?_ rfl HF.out.2
  simp [results, Tryd.results19, go_sem, d0, d1, e0]
theorem rans_pair (r : Rq) (p : Rp) (ua pa : Option Addr) (un pn : Nat) (w : World) (hv : IntsAt w (.slice ua r.vs.length un) r.vs) (hp : IntsAt w (.slice pa p.vs.length pn) p.vs) (hl : r.vs.length ≤ 3000) (hlp : p.vs.length ≤ 3000) : Calls Tryd.prog 19 #[.agg #[.int .i64 r.f, .int .i64 r.s, .int .i64 r.c, .slice ua r.vs.length un], .agg #[.int .i64 p.code, .slice pa p.vs.length pn]] w (RAns w (r.may && mayR r p) r.f (ansL r p)) := by
  unfold ansL
  cases hm : r.may with
  | false => exact rans_may r p ua pa un pn w hv hp hl hlp hm
  | true =>
    cases hr : mayR r p with
    | false => exact rans_right r p ua pa un pn w hv hp hl hlp hm hr
    | true => exact rans_ok r p ua pa un pn w hv hp hl hlp hm hr
/-- The program's Answer in the same form. -/
theorem ans_pair (r : Rq) (p : Rp) (v pv : Value) (w : World) (hv : IntsAt w v r.vs) (hp : IntsAt w pv p.vs) (hl : r.vs.length ≤ 3000) (hlp : p.vs.length ≤ 3000) : Calls Tryd.prog 18 #[r.val v, p.val pv] w fun e w' => ∃ a n ev, e = .returned (.tuple #[.slice a (ansL r p).length n, ev]) ∧ BytesAt w' (.slice a (ansL r p).length n) (ansL r p) ∧ EvIs (r.may && mayR r p) r.f 1 w' ev ∧ Below w.heap.size w w' := by
  unfold ansL
  cases hm : (r.may && mayR r p) with
  | true =>
    rw [Bool.and_eq_true] at hm
    refine (ans_ok r p v pv w hv hp hm.1 hm.2 (by omega) (by omega)).mono ?_
    rintro e w' ⟨u, rfl, ho, hb⟩
    obtain ⟨a, n, rfl⟩ := row_slice ho
    exact ⟨a, n, _, rfl, bytesAt_own ho, .inl ⟨rfl, rfl⟩, hb⟩
  | false =>
    refine (ans_no r p v pv w hv hp hm (by omega) (by omega)).mono ?_
    rintro e w' ⟨u, rfl, hx, hb⟩
    exact ⟨none, 0, u, rfl, bytes_empty _, .inr ⟨rfl, hx⟩, hb⟩
end Go.Proofs.YtngfaailbkadfaaDoor
