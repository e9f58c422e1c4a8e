/- yardref7.Read. -/
import Derived.Test.YtngfaailbkadfaaDoorS5
namespace Go.Proofs.YtngfaailbkadfaaDoor
open Go.RowKit Go.Extern.Stop Go.Stop Go.Extern

/-- Read's three boxes: the request, the reply, the error. -/
structure RD (w W : World) (f s c : Int) (u : Value) : Prop where
  q : BoxQ W w.heap.size f s c u
  p : BoxS W (w.heap.size + 1) 0 (.slice none 0 0)
  e : BoxE W (w.heap.size + 2) 0 (.slice none 0 0)
  below : Below w.heap.size w W
theorem RD.on {w W W' : World} {f s c : Int} {u : Value} (h : RD w W f s c u) (hb : Below W.heap.size W W') : RD w W' f s c u := ⟨h.q.on hb, h.p.on hb, h.e.on hb, h.below.trans (hb.mono h.below.size)⟩
theorem rd_new (w : World) (f s c : Int) (u : Value) : RD w (((w.alloc (.cells #[.int .i64 f, .int .i64 s, .int .i64 c, u] 38)).alloc (.cells #[.int .i64 0, .slice none 0 0] 55)).alloc (.cells #[.int .i64 0, .slice none 0 0] 35)) f s c u := by
  have h := ab_new w f s c u 0 (.slice none 0 0)
  exact ⟨h.q, h.p, h.e, h.below⟩
def rfin (W : World) (k : Nat) (pc : Int) (pv : Value) (ec : Int) (ev : Value) : World := fin2 (fin2 W (k + 1) pc pv) (k + 2) ec ev
theorem rfin_box {w W : World} {f s c : Int} {u : Value} (h : RD w W f s c u) (pc : Int) (pv : Value) (ec : Int) (ev : Value) : BoxS (rfin W w.heap.size pc pv ec ev) (w.heap.size + 1) pc pv ∧ BoxE (rfin W w.heap.size pc pv ec ev) (w.heap.size + 2) ec ev ∧ Below w.heap.size w (rfin W w.heap.size pc pv ec ev) := by
  have h1 : BoxS (fin2 W (w.heap.size + 1) pc pv) (w.heap.size + 1) pc pv := fin2_boxS h.p _ _
  have h2 : BoxE (fin2 W (w.heap.size + 1) pc pv) (w.heap.size + 2) 0 (.slice none 0 0) := ((fin2_off W (w.heap.size + 1) pc pv).block (w.heap.size + 2) (lt_heap h.e) (by omega)).trans h.e
  refine ⟨((fin2_off _ (w.heap.size + 2) ec ev).block (w.heap.size + 1) (lt_heap h1) (by omega)).trans h1, fin2_box h2 ec ev, ?_⟩
  exact fin2_below (fin2_below h.below _ (by omega) _ _) _ (by omega) _ _
theorem rfin_off (W : World) (k : Nat) (pc : Int) (pv : Value) (ec : Int) (ev : Value) : Off (fun j => j = k + 1 ∨ j = k + 2) W (rfin W k pc pv ec ev) :=
  ((fin2_off W (k + 1) pc pv).mono fun _ _ e => .inl e).trans ((fin2_off _ (k + 2) ec ev).mono fun _ _ e => .inr e)
theorem steps_off3 {w w' : World} {g k : Nat} {x : ByteArray × Int} (h : StepsOwn w (.slice (some ⟨g, 0, none⟩) 1 1) [x]) (ho : Off (fun j => j = k + 1 ∨ j = k + 2) w w') (h1 : g ≠ k + 1) (h2 : g ≠ k + 2) : StepsOwn w' (.slice (some ⟨g, 0, none⟩) 1 1) [x] := by
  obtain ⟨ao, cap, hv, h⟩ := h
  refine ⟨ao, cap, hv, fun i hi => ?_⟩
  obtain ⟨g', ha, hlt, h0, h1'⟩ := h i hi
  simp only [Value.slice.injEq] at hv
  obtain ⟨e1, _, _⟩ := hv
  rw [ha] at e1
  obtain rfl : g = g' := by simpa using e1
  have hb : w'.heap[g]? = w.heap[g]? := ho.block g hlt (by omega)
  have hc : ∀ o, w'.cell? ⟨g, o, none⟩ = w.cell? ⟨g, o, none⟩ := fun o => by simp only [World.cell?, hb]
  exact ⟨g, ha, Nat.lt_of_lt_of_le hlt ho.size, (hc _).trans h0, (hc _).trans h1'⟩
def RRdNo (w : World) (x c : Int) (e : Ending) (w' : World) : Prop := ∃ g : Nat, e = .returned (.tuple #[.agg #[.int .i64 0, .slice none 0 0], .agg #[.int .i64 c, .slice (some ⟨g, 0, none⟩) 1 1]]) ∧ StepsOwn w' (.slice (some ⟨g, 0, none⟩) 1 1) [(sPdu, x)] ∧ Below w.heap.size w w'
def RRdOk (w : World) (p : Rp) (e : Ending) (w' : World) : Prop := ∃ a n, e = .returned (.tuple #[.agg #[.int .i64 p.code, .slice a p.vs.length n], e0]) ∧ IntsAt w' (.slice a p.vs.length n) p.vs ∧ Below w.heap.size w w'
theorem mk_rd (x c' : Int) (w w0 : World) {f s c : Int} {u : Value} (h : RD w w0 f s c u) : Calls Tryd.prog 30 #[.string sPdu, .int .i64 x, .int .i64 c'] w0 fun e wa => ∃ g : Nat, e = .returned (.agg #[.int .i64 c', .slice (some ⟨g, 0, none⟩) 1 1]) ∧ Hid (RD w wa f s c u ∧ StepsOwn wa (.slice (some ⟨g, 0, none⟩) 1 1) [(sPdu, x)] ∧ g ≠ w.heap.size + 1 ∧ g ≠ w.heap.size + 2) := by
  refine (mk_any sPdu x c' w0).mono ?_
  rintro e wa ⟨⟨g, rfl, hs, hg⟩, hb⟩
  have h2 := lt_heap h.e
  exact ⟨g, rfl, Lib.hid ⟨h.on hb, hs, by omega, by omega⟩⟩
theorem rd_end {w wa : World} {f s c : Int} {u : Value} {x c' : Int} {g : Nat} (h : RD w wa f s c u) (hs : StepsOwn wa (.slice (some ⟨g, 0, none⟩) 1 1) [(sPdu, x)]) (h1 : g ≠ w.heap.size + 1) (h2 : g ≠ w.heap.size + 2) :
    (BoxS (fin2 (fin2 wa (w.heap.size + 1) 0 (.slice none 0 0)) (w.heap.size + 2) c' (.slice (some ⟨g, 0, none⟩) 1 1)) (w.heap.size + 1) 0 (.slice none 0 0) ∧ BoxE (fin2 (fin2 wa (w.heap.size + 1) 0 (.slice none 0 0)) (w.heap.size + 2) c' (.slice (some ⟨g, 0, none⟩) 1 1)) (w.heap.size + 2) c' (.slice (some ⟨g, 0, none⟩) 1 1)) ∧ RRdNo w x c' (.returned (.tuple #[.agg #[.int .i64 0, .slice none 0 0], .agg #[.int .i64 c', .slice (some ⟨g, 0, none⟩) 1 1]])) (fin2 (fin2 wa (w.heap.size + 1) 0 (.slice none 0 0)) (w.heap.size + 2) c' (.slice (some ⟨g, 0, none⟩) 1 1)) := by
  obtain ⟨a1, a2, a3⟩ := rfin_box h 0 (.slice none 0 0) c' (.slice (some ⟨g, 0, none⟩) 1 1)
  exact ⟨⟨a1, a2⟩, g, rfl, steps_off3 hs (rfin_off _ _ _ _ _ _) h1 h2, a3⟩
theorem ints_off {W W' : World} {a : Option Addr} {n cc B : Nat} {l : List Int} (h : IntsAt W (.slice a n cc) l) (hb : ∀ q, a = some q → B ≤ q.block) (ho : Off (fun j => j < B) W W') : IntsAt W' (.slice a n cc) l := by
  obtain ⟨ao, cap, hv, hc⟩ := h
  simp only [Value.slice.injEq] at hv
  obtain ⟨rfl, rfl, rfl⟩ := hv
  refine ⟨a, cc, rfl, fun i hi => ?_⟩
  obtain ⟨b, off, ha, hcell⟩ := hc i hi
  refine ⟨b, off, ha, ?_⟩
  have h1 := hb _ ha
  have h2 : W'.heap[b]? = W.heap[b]? := ho.block b (lt_cell hcell) (by dsimp only at h1; omega)
  simp only [World.cell?, h2]
  exact hcell
theorem rpF_len (r : Rq) (d : List UInt8) (hm : r.may = true) : (rpF r d).vs.length ≤ 3000 := by
  have hc := may_c hm
  unfold rpF
  repeat' split
  · simp
  · simp only [unF_length]; omega
  · simp only [rgF_length]; omega
  · simp

set_option maxRecDepth 100000 in
set_option maxHeartbeats 4000000 in
theorem rread_may (r : Rq) (ua : Option Addr) (un : Nat) (v : Value) (d : List UInt8) (w : World) (hu : IntsAt w (.slice ua r.vs.length un) r.vs) (hv : BytesAt w v d) (hl : r.vs.length ≤ 3000) (hld : d.length ≤ 3000) (hm : r.may = false) : Calls Tryd.prog 22 #[.agg #[.int .i64 r.f, .int .i64 r.s, .int .i64 r.c, .slice ua r.vs.length un], v] w (RRdNo w r.f 1) := by
  have HMM : Hid (mayB r.f r.s r.c r.vs = false) := Lib.hid hm
  obtain ⟨f, s, c, us⟩ := r
  dsimp only at *
  have HUS := Lib.hid hu
  have HV := Lib.hid hv
  have HL := Lib.hid (And.intro hl hld)
  obtain ⟨da, dn, rfl, _⟩ := id hv
  obtain ⟨wx, hwx⟩ : ∃ wx, wx = ((w.alloc (.cells #[.int .i64 f, .int .i64 s, .int .i64 c, .slice ua us.length un] 38)).alloc (.cells #[.int .i64 0, .slice none 0 0] 55)).alloc (.cells #[.int .i64 0, .slice none 0 0] 35) := ⟨_, rfl⟩
  have A0 : Hid (RD w wx f s c (.slice ua us.length un)) := Lib.hid (by rw [hwx]; exact rd_new _ _ _ _ _)
  have q0 : (((w.alloc (.cells #[.int .i64 f, .int .i64 s, .int .i64 c, .slice ua us.length un] 38)).alloc (.cells #[.int .i64 0, .slice none 0 0] 55)).alloc (.cells #[.int .i64 0, .slice none 0 0] 35)).cell? ⟨w.heap.size, 0, none⟩ = some (.int .i64 f) := by rw [← hwx]; exact A0.out.q.cells.1
  have q1 : (((w.alloc (.cells #[.int .i64 f, .int .i64 s, .int .i64 c, .slice ua us.length un] 38)).alloc (.cells #[.int .i64 0, .slice none 0 0] 55)).alloc (.cells #[.int .i64 0, .slice none 0 0] 35)).cell? ⟨w.heap.size, 1, none⟩ = some (.int .i64 s) := by rw [← hwx]; exact A0.out.q.cells.2.1
  have q2 : (((w.alloc (.cells #[.int .i64 f, .int .i64 s, .int .i64 c, .slice ua us.length un] 38)).alloc (.cells #[.int .i64 0, .slice none 0 0] 55)).alloc (.cells #[.int .i64 0, .slice none 0 0] 35)).cell? ⟨w.heap.size, 2, none⟩ = some (.int .i64 c) := by rw [← hwx]; exact A0.out.q.cells.2.2.1
  have q3 : (((w.alloc (.cells #[.int .i64 f, .int .i64 s, .int .i64 c, .slice ua us.length un] 38)).alloc (.cells #[.int .i64 0, .slice none 0 0] 55)).alloc (.cells #[.int .i64 0, .slice none 0 0] 35)).cell? ⟨w.heap.size, 3, none⟩ = some (.slice ua us.length un) := by rw [← hwx]; exact A0.out.q.cells.2.2.2
  clear hu hv hl hld hm
  go_enter Tryd.func22, Tryd.ntmps22
  go_wp2_with fail
  rw [← hwx]
  clear hwx q0 q1 q2 q3
  refine (rmay_any f s c _ us wx (HUS.out.on A0.out.below) (by have := HL.out; omega)).mono ?_
  rintro e w1 ⟨rfl, hb⟩
  rw [HMM.out]
  have A1 := Lib.hid (A0.out.on hb)
  clear hb
  obtain ⟨c0, c1, c2, c3⟩ := A1.out.q.cells
  go_wp2_with fail
  refine (mk_rd f 1 w _ A1.out).mono ?_
  rintro e wa ⟨g, rfl, HA⟩
  (try clear c0 c1 c2 c3)
  obtain ⟨b0, b1, z0, z1⟩ := HA.out.1.p.cells
  obtain ⟨k0, k1, z2, z3⟩ := HA.out.1.e.cells
  have HF := Lib.hid (rd_end (c' := 1) HA.out.1 HA.out.2.1 HA.out.2.2.1 HA.out.2.2.2)
  unfold fin2 at HF
  go_wp2
  generalize (World.setCell (World.setCell (World.setCell (World.setCell wa _ _) _ _) _ _) _ _) = W at HF ⊢
  obtain ⟨d0, d1, _, _⟩ := HF.out.1.1.cells
  obtain ⟨d2, d3, _, _⟩ := HF.out.1.2.cells
  refine bodyPost_ret (v := .tuple #[.agg #[.int .i64 0, .slice none 0 0], .agg #[.int .i64 1, .slice (some ⟨g, 0, none⟩) 1 1]]) ?_ rfl HF.out.2
  simp [results, Tryd.results22, go_sem, d0, d1, d2, d3]

set_option maxRecDepth 100000 in
set_option maxHeartbeats 4000000 in
theorem rread_nil (r : Rq) (ua : Option Addr) (un : Nat) (v : Value) (d : List UInt8) (w : World) (hu : IntsAt w (.slice ua r.vs.length un) r.vs) (hv : BytesAt w v d) (hl : r.vs.length ≤ 3000) (hld : d.length ≤ 3000) (hm : r.may = true) (h0 : d.length = 0) : Calls Tryd.prog 22 #[.agg #[.int .i64 r.f, .int .i64 r.s, .int .i64 r.c, .slice ua r.vs.length un], v] w (RRdNo w 0 2) := by
  have HMM : Hid (mayB r.f r.s r.c r.vs = true) := Lib.hid hm
  have hd0 : ((d.length : Int) == 0) = true := by rw [h0]; rfl
  obtain ⟨f, s, c, us⟩ := r
  dsimp only at *
  have HUS := Lib.hid hu
  have HV := Lib.hid hv
  have HL := Lib.hid (And.intro hl hld)
  obtain ⟨da, dn, rfl, _⟩ := id hv
  obtain ⟨wx, hwx⟩ : ∃ wx, wx = ((w.alloc (.cells #[.int .i64 f, .int .i64 s, .int .i64 c, .slice ua us.length un] 38)).alloc (.cells #[.int .i64 0, .slice none 0 0] 55)).alloc (.cells #[.int .i64 0, .slice none 0 0] 35) := ⟨_, rfl⟩
  have A0 : Hid (RD w wx f s c (.slice ua us.length un)) := Lib.hid (by rw [hwx]; exact rd_new _ _ _ _ _)
  have q0 : (((w.alloc (.cells #[.int .i64 f, .int .i64 s, .int .i64 c, .slice ua us.length un] 38)).alloc (.cells #[.int .i64 0, .slice none 0 0] 55)).alloc (.cells #[.int .i64 0, .slice none 0 0] 35)).cell? ⟨w.heap.size, 0, none⟩ = some (.int .i64 f) := by rw [← hwx]; exact A0.out.q.cells.1
  have q1 : (((w.alloc (.cells #[.int .i64 f, .int .i64 s, .int .i64 c, .slice ua us.length un] 38)).alloc (.cells #[.int .i64 0, .slice none 0 0] 55)).alloc (.cells #[.int .i64 0, .slice none 0 0] 35)).cell? ⟨w.heap.size, 1, none⟩ = some (.int .i64 s) := by rw [← hwx]; exact A0.out.q.cells.2.1
  have q2 : (((w.alloc (.cells #[.int .i64 f, .int .i64 s, .int .i64 c, .slice ua us.length un] 38)).alloc (.cells #[.int .i64 0, .slice none 0 0] 55)).alloc (.cells #[.int .i64 0, .slice none 0 0] 35)).cell? ⟨w.heap.size, 2, none⟩ = some (.int .i64 c) := by rw [← hwx]; exact A0.out.q.cells.2.2.1
  have q3 : (((w.alloc (.cells #[.int .i64 f, .int .i64 s, .int .i64 c, .slice ua us.length un] 38)).alloc (.cells #[.int .i64 0, .slice none 0 0] 55)).alloc (.cells #[.int .i64 0, .slice none 0 0] 35)).cell? ⟨w.heap.size, 3, none⟩ = some (.slice ua us.length un) := by rw [← hwx]; exact A0.out.q.cells.2.2.2
  clear hu hv hl hld hm h0
  go_enter Tryd.func22, Tryd.ntmps22
  go_wp2_with fail
  rw [← hwx]
  clear hwx q0 q1 q2 q3
  refine (rmay_any f s c _ us wx (HUS.out.on A0.out.below) (by have := HL.out; omega)).mono ?_
  rintro e w1 ⟨rfl, hb⟩
  rw [HMM.out]
  have A1 := Lib.hid (A0.out.on hb)
  clear hb
  obtain ⟨c0, c1, c2, c3⟩ := A1.out.q.cells
  go_wp2_with fail
  refine (mk_rd 0 2 w _ A1.out).mono ?_
  rintro e wa ⟨g, rfl, HA⟩
  (try clear c0 c1 c2 c3)
  obtain ⟨b0, b1, z0, z1⟩ := HA.out.1.p.cells
  obtain ⟨k0, k1, z2, z3⟩ := HA.out.1.e.cells
  have HF := Lib.hid (rd_end (c' := 2) HA.out.1 HA.out.2.1 HA.out.2.2.1 HA.out.2.2.2)
  unfold fin2 at HF
  go_wp2
  generalize (World.setCell (World.setCell (World.setCell (World.setCell wa _ _) _ _) _ _) _ _) = W at HF ⊢
  obtain ⟨d0, d1, _, _⟩ := HF.out.1.1.cells
  obtain ⟨d2, d3, _, _⟩ := HF.out.1.2.cells
  refine bodyPost_ret (v := .tuple #[.agg #[.int .i64 0, .slice none 0 0], .agg #[.int .i64 2, .slice (some ⟨g, 0, none⟩) 1 1]]) ?_ rfl HF.out.2
  simp [results, Tryd.results22, go_sem, d0, d1, d2, d3]

set_option maxRecDepth 100000 in
set_option maxHeartbeats 4000000 in
theorem rread_kind (r : Rq) (ua : Option Addr) (un : Nat) (v : Value) (d : List UInt8) (w : World) (hu : IntsAt w (.slice ua r.vs.length un) r.vs) (hv : BytesAt w v d) (hl : r.vs.length ≤ 3000) (hld : d.length ≤ 3000) (hm : r.may = true) (h0 : 0 < d.length) (h1 : fB d ≠ r.f) (h2 : fB d ≠ r.f + 128) : Calls Tryd.prog 22 #[.agg #[.int .i64 r.f, .int .i64 r.s, .int .i64 r.c, .slice ua r.vs.length un], v] w (RRdNo w (fB d) 6) := by
  have HMM : Hid (mayB r.f r.s r.c r.vs = true) := Lib.hid hm
  have hfb := f_ok hm
  have hd0 : ((d.length : Int) == 0) = false := beq_eq_false_iff_ne.2 (by omega)
  have hdp : (0 : Int) < (d.length : Int) := by omega
  have HD0 := Lib.hid h0
  have hylt := getD_lt d 0
  have HY0 : Hid (∃ b off, (∃ n cc, v = .slice (some ⟨b, off, none⟩) n cc) ∧ w.cell? ⟨b, off, none⟩ = some (.int .u8 ((d.getD 0 0).toNat : Int))) := Lib.hid (by
    obtain ⟨b, off, cap, rfl, p0⟩ := bytes_getD hv 0 h0
    exact ⟨b, off, ⟨_, _, rfl⟩, by simpa using p0⟩)
  have hyd : Hid (fB d = ((d.getD 0 0).toNat : Int)) := Lib.hid rfl
  generalize hyy : (d.getD 0 0).toNat = y at *
  have hw1 : IntKind.i64.wrap (y : Int) = (y : Int) := by rw [IntKind.wrap_i64]; omega
  have hw2 : IntKind.i64.wrap (r.f + 128) = r.f + 128 := by rw [IntKind.wrap_i64]; omega
  rw [hyd.out] at h1 h2 ⊢
  have e1 : ((y : Int) != r.f) = true := bne_iff_ne.2 h1
  have e2 : ((y : Int) != r.f + 128) = true := bne_iff_ne.2 h2
  obtain ⟨f, s, c, us⟩ := r
  dsimp only at *
  have HUS := Lib.hid hu
  have HV := Lib.hid hv
  have HL := Lib.hid (And.intro hl hld)
  obtain ⟨da, dn, rfl, _⟩ := id hv
  obtain ⟨wx, hwx⟩ : ∃ wx, wx = ((w.alloc (.cells #[.int .i64 f, .int .i64 s, .int .i64 c, .slice ua us.length un] 38)).alloc (.cells #[.int .i64 0, .slice none 0 0] 55)).alloc (.cells #[.int .i64 0, .slice none 0 0] 35) := ⟨_, rfl⟩
  have A0 : Hid (RD w wx f s c (.slice ua us.length un)) := Lib.hid (by rw [hwx]; exact rd_new _ _ _ _ _)
  have q0 : (((w.alloc (.cells #[.int .i64 f, .int .i64 s, .int .i64 c, .slice ua us.length un] 38)).alloc (.cells #[.int .i64 0, .slice none 0 0] 55)).alloc (.cells #[.int .i64 0, .slice none 0 0] 35)).cell? ⟨w.heap.size, 0, none⟩ = some (.int .i64 f) := by rw [← hwx]; exact A0.out.q.cells.1
  have q1 : (((w.alloc (.cells #[.int .i64 f, .int .i64 s, .int .i64 c, .slice ua us.length un] 38)).alloc (.cells #[.int .i64 0, .slice none 0 0] 55)).alloc (.cells #[.int .i64 0, .slice none 0 0] 35)).cell? ⟨w.heap.size, 1, none⟩ = some (.int .i64 s) := by rw [← hwx]; exact A0.out.q.cells.2.1
  have q2 : (((w.alloc (.cells #[.int .i64 f, .int .i64 s, .int .i64 c, .slice ua us.length un] 38)).alloc (.cells #[.int .i64 0, .slice none 0 0] 55)).alloc (.cells #[.int .i64 0, .slice none 0 0] 35)).cell? ⟨w.heap.size, 2, none⟩ = some (.int .i64 c) := by rw [← hwx]; exact A0.out.q.cells.2.2.1
  have q3 : (((w.alloc (.cells #[.int .i64 f, .int .i64 s, .int .i64 c, .slice ua us.length un] 38)).alloc (.cells #[.int .i64 0, .slice none 0 0] 55)).alloc (.cells #[.int .i64 0, .slice none 0 0] 35)).cell? ⟨w.heap.size, 3, none⟩ = some (.slice ua us.length un) := by rw [← hwx]; exact A0.out.q.cells.2.2.2
  clear hu hv hl hld hm h0 h1 h2 hfb hylt hyy
  go_enter Tryd.func22, Tryd.ntmps22
  go_wp2_with fail
  rw [← hwx]
  clear hwx q0 q1 q2 q3
  refine (rmay_any f s c _ us wx (HUS.out.on A0.out.below) (by have := HL.out; omega)).mono ?_
  rintro e w1 ⟨rfl, hb⟩
  rw [HMM.out]
  have A1 := Lib.hid (A0.out.on hb)
  clear hb
  obtain ⟨c0, c1, c2, c3⟩ := A1.out.q.cells
  obtain ⟨yb, yo, ⟨yn, yc, hye⟩, hyc⟩ := HY0.out
  simp only [Value.slice.injEq] at hye
  obtain ⟨rfl, _, _⟩ := hye
  have x1 := (A1.out.below.cell (p := ⟨yb, yo, none⟩) (lt_cell hyc)).trans hyc
  have HYC := Lib.hid hyc
  clear hyc
  go_wp2_with fail
  go_quiet (fail)
  generalize hw9 : w1.drewN nq = w2
  have A2 : Hid (RD w w2 f s c (.slice ua us.length un)) := Lib.hid (by rw [← hw9]; exact A1.out.on (below_drewN (Below.refl _ _) nq))
  clear hw9 x1 c0 c1 c2 c3
  obtain ⟨c0, c1, c2, c3⟩ := A2.out.q.cells
  have x2 := (A2.out.below.cell (p := ⟨yb, yo, none⟩) (lt_cell HYC.out)).trans HYC.out
  go_wp2_with fail
  refine (mk_rd (y : Int) 6 w _ A2.out).mono ?_
  rintro e wa ⟨g, rfl, HA⟩
  (try clear c0 c1 c2 c3)
  obtain ⟨b0, b1, z0, z1⟩ := HA.out.1.p.cells
  obtain ⟨k0, k1, z2, z3⟩ := HA.out.1.e.cells
  have HF := Lib.hid (rd_end (c' := 6) HA.out.1 HA.out.2.1 HA.out.2.2.1 HA.out.2.2.2)
  unfold fin2 at HF
  go_wp2
  generalize (World.setCell (World.setCell (World.setCell (World.setCell wa _ _) _ _) _ _) _ _) = W at HF ⊢
  obtain ⟨d0, d1, _, _⟩ := HF.out.1.1.cells
  obtain ⟨d2, d3, _, _⟩ := HF.out.1.2.cells
  refine bodyPost_ret (v := .tuple #[.agg #[.int .i64 0, .slice none 0 0], .agg #[.int .i64 6, .slice (some ⟨g, 0, none⟩) 1 1]]) ?_ rfl HF.out.2
  simp [results, Tryd.results22, go_sem, d0, d1, d2, d3]

end Go.Proofs.YtngfaailbkadfaaDoor
