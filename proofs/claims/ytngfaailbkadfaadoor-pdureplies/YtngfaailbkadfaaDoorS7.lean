/- yardref7.Read, more ways. -/
import Derived.Test.YtngfaailbkadfaaDoorS6
namespace Go.Proofs.YtngfaailbkadfaaDoor
open Go.RowKit Go.Extern.Stop Go.Stop Go.Extern

set_option maxRecDepth 100000 in
set_option maxHeartbeats 4000000 in
theorem rread_x3 (r : Rq) (ua : Option Addr) (un : Nat) (v : Value) (d : List UInt8) (w : World) (hu : IntsAt w (.slice ua r.vs.length un) r.vs) (hv : BytesAt w v d) (hl : r.vs.length ≤ 3000) (hld : d.length ≤ 3000) (hm : r.may = true) (h0 : 0 < d.length) (h1 : fB d = r.f + 128) (hcap : ∀ ao n cap, v = .slice ao n cap → n ≤ cap) (hk : rpOk r d) (he : (ansF r (rpF r d) == d) = true) : Calls Tryd.prog 22 #[.agg #[.int .i64 r.f, .int .i64 r.s, .int .i64 r.c, .slice ua r.vs.length un], v] w (RRdOk w (rpF r d)) := by
  have HRY : Hid (∀ W, BytesAt W v d → Calls Tryd.prog 47 #[.agg #[.int .i64 r.f, .int .i64 r.s, .int .i64 r.c, .slice ua r.vs.length un], v] W (RplOk W (rpF r d).code (rpF r d).vs)) := Lib.hid (fun W h => rpl_yes r _ v d W h hld h0 hm hcap hk)
  have HTD : Hid (∀ (pv : Value) (W : World), IntsAt W (.slice ua r.vs.length un) r.vs → IntsAt W pv (rpF r d).vs → Calls Tryd.prog 45 #[.agg #[.int .i64 r.f, .int .i64 r.s, .int .i64 r.c, .slice ua r.vs.length un], .agg #[.int .i64 (rpF r d).code, pv]] W (ToldIs W (ansF r (rpF r d)))) := Lib.hid (fun pv W h1 h2 => told_any r (rpF r d) _ pv W h1 h2 hm (rp_may hm hk) hl (rpF_len r d hm))
  have HEQ : Hid ((ansF r (rpF r d) == d) = true) := Lib.hid he
  generalize ansF r (rpF r d) = out at *
  generalize rpF r d = p at *
  obtain ⟨code, vs⟩ := p
  dsimp only at HRY HTD ⊢
  have HMM : Hid (mayB r.f r.s r.c r.vs = true) := Lib.hid hm
  have hfb := f_ok hm
  have hd0 : ((d.length : Int) == 0) = false := beq_eq_false_iff_ne.2 (by omega)
  have hdp : (0 : Int) < (d.length : Int) := by omega
  have HD0 := Lib.hid h0
  have hylt := getD_lt d 0
  have HY0 : Hid (∃ b off, (∃ n cc, v = .slice (some ⟨b, off, none⟩) n cc) ∧ w.cell? ⟨b, off, none⟩ = some (.int .u8 ((d.getD 0 0).toNat : Int))) := Lib.hid (by
    obtain ⟨b, off, cap, rfl, p0⟩ := bytes_getD hv 0 h0
    exact ⟨b, off, ⟨_, _, rfl⟩, by simpa using p0⟩)
  have hyd : Hid (fB d = ((d.getD 0 0).toNat : Int)) := Lib.hid rfl
  generalize hyy : (d.getD 0 0).toNat = y at *
  have hw1 : IntKind.i64.wrap (y : Int) = (y : Int) := by rw [IntKind.wrap_i64]; omega
  have hw2 : IntKind.i64.wrap (r.f + 128) = r.f + 128 := by rw [IntKind.wrap_i64]; omega
  rw [hyd.out] at h1
  have e1 : ((y : Int) != r.f) = true := bne_iff_ne.2 (by omega)
  have e2 : ((y : Int) != r.f + 128) = false := by rw [h1]; simp
  obtain ⟨f, s, c, us⟩ := r
  dsimp only at *
  have HUS := Lib.hid hu
  have HV := Lib.hid hv
  have HL := Lib.hid (And.intro hl hld)
  obtain ⟨da, dn, rfl, _⟩ := id hv
  obtain ⟨wx, hwx⟩ : ∃ wx, wx = ((w.alloc (.cells #[.int .i64 f, .int .i64 s, .int .i64 c, .slice ua us.length un] 38)).alloc (.cells #[.int .i64 0, .slice none 0 0] 55)).alloc (.cells #[.int .i64 0, .slice none 0 0] 35) := ⟨_, rfl⟩
  have A0 : Hid (RD w wx f s c (.slice ua us.length un)) := Lib.hid (by rw [hwx]; exact rd_new _ _ _ _ _)
  have q0 : (((w.alloc (.cells #[.int .i64 f, .int .i64 s, .int .i64 c, .slice ua us.length un] 38)).alloc (.cells #[.int .i64 0, .slice none 0 0] 55)).alloc (.cells #[.int .i64 0, .slice none 0 0] 35)).cell? ⟨w.heap.size, 0, none⟩ = some (.int .i64 f) := by rw [← hwx]; exact A0.out.q.cells.1
  have q1 : (((w.alloc (.cells #[.int .i64 f, .int .i64 s, .int .i64 c, .slice ua us.length un] 38)).alloc (.cells #[.int .i64 0, .slice none 0 0] 55)).alloc (.cells #[.int .i64 0, .slice none 0 0] 35)).cell? ⟨w.heap.size, 1, none⟩ = some (.int .i64 s) := by rw [← hwx]; exact A0.out.q.cells.2.1
  have q2 : (((w.alloc (.cells #[.int .i64 f, .int .i64 s, .int .i64 c, .slice ua us.length un] 38)).alloc (.cells #[.int .i64 0, .slice none 0 0] 55)).alloc (.cells #[.int .i64 0, .slice none 0 0] 35)).cell? ⟨w.heap.size, 2, none⟩ = some (.int .i64 c) := by rw [← hwx]; exact A0.out.q.cells.2.2.1
  have q3 : (((w.alloc (.cells #[.int .i64 f, .int .i64 s, .int .i64 c, .slice ua us.length un] 38)).alloc (.cells #[.int .i64 0, .slice none 0 0] 55)).alloc (.cells #[.int .i64 0, .slice none 0 0] 35)).cell? ⟨w.heap.size, 3, none⟩ = some (.slice ua us.length un) := by rw [← hwx]; exact A0.out.q.cells.2.2.2
  clear hu hv hl hld hm h0 h1 hk he hcap hfb hylt hyy
  go_enter Tryd.func22, Tryd.ntmps22
  go_wp2_with fail
  rw [← hwx]
  clear hwx q0 q1 q2 q3
  refine (rmay_any f s c _ us wx (HUS.out.on A0.out.below) (by have := HL.out; omega)).mono ?_
  rintro e w1 ⟨rfl, hb⟩
  rw [HMM.out]
  have A1 := Lib.hid (A0.out.on hb)
  clear hb
  obtain ⟨c0, c1, c2, c3⟩ := A1.out.q.cells
  obtain ⟨yb, yo, ⟨yn, yc, hye⟩, hyc⟩ := HY0.out
  simp only [Value.slice.injEq] at hye
  obtain ⟨rfl, -, -⟩ := hye
  have x1 := (A1.out.below.cell (p := ⟨yb, yo, none⟩) (lt_cell hyc)).trans hyc
  have HYC := Lib.hid hyc
  clear hyc
  go_wp2_with fail
  go_quiet (fail)
  generalize hw9 : w1.drewN nq = w2
  have A2 : Hid (RD w w2 f s c (.slice ua us.length un)) := Lib.hid (by rw [← hw9]; exact A1.out.on (below_drewN (Below.refl _ _) nq))
  clear hw9 x1 c0 c1 c2 c3
  obtain ⟨c0, c1, c2, c3⟩ := A2.out.q.cells
  have x2 := (A2.out.below.cell (p := ⟨yb, yo, none⟩) (lt_cell HYC.out)).trans HYC.out
  go_wp2_with fail
  refine (HRY.out w2 (HV.out.on A2.out.below)).mono ?_
  rintro e w3 ⟨pa, pn, rfl, hp, hpb, hb⟩
  have HPB : Hid (∀ q, pa = some q → w.heap.size + 3 ≤ q.block) := Lib.hid (fun q e => by have h1 := hpb q e; have h2 := lt_heap A2.out.e; omega)
  have hnb := below_new w3 (.cells #[.int .i64 code, .slice pa vs.length pn] 55)
  have A3 := Lib.hid ((A2.out.on hb).on hnb)
  have I3 := Lib.hid (hp.on hnb)
  have B3 : Hid (BoxS (w3.alloc (.cells #[.int .i64 code, .slice pa vs.length pn] 55)) w3.heap.size code (.slice pa vs.length pn)) := Lib.hid (heap_alloc_new w3 _)
  clear hb hnb hp hpb x2 c0 c1 c2 c3
  obtain ⟨c0, c1, c2, c3⟩ := A3.out.q.cells
  obtain ⟨m0, m1, _, _⟩ := B3.out.cells
  go_wp2_with fail
  generalize w3.alloc (.cells #[.int .i64 code, .slice pa vs.length pn] 55) = w4 at *
  generalize w3.heap.size = k6 at *
  refine (HTD.out (.slice pa vs.length pn) w4 (HUS.out.on A3.out.below) I3.out).mono ?_
  rintro e w5 ⟨ta, tn, rfl, ht, hb⟩
  have A5 := Lib.hid (A3.out.on hb)
  have I5 := Lib.hid (I3.out.on hb)
  have B5 := Lib.hid (B3.out.on hb)
  have T5 := Lib.hid ht
  clear hb ht c0 c1 c2 c3 m0 m1
  go_wp2_with fail
  refine (alike_any _ _ out d w5 T5.out (HV.out.on A5.out.below)).mono ?_
  rintro e w6 ⟨rfl, rfl⟩
  rw [HEQ.out]
  obtain ⟨m0, m1, _, _⟩ := B5.out.cells
  obtain ⟨b0, b1, z0, z1⟩ := A5.out.p.cells
  obtain ⟨k0, k1, z2, z3⟩ := A5.out.e.cells
  have HF : Hid ((BoxS (fin2 (fin2 w5 (w.heap.size + 1) code (.slice pa vs.length pn)) (w.heap.size + 2) 0 (.slice none 0 0)) (w.heap.size + 1) code (.slice pa vs.length pn) ∧ BoxE (fin2 (fin2 w5 (w.heap.size + 1) code (.slice pa vs.length pn)) (w.heap.size + 2) 0 (.slice none 0 0)) (w.heap.size + 2) 0 (.slice none 0 0)) ∧ RRdOk w ⟨code, vs⟩ (.returned (.tuple #[.agg #[.int .i64 code, .slice pa vs.length pn], e0])) (fin2 (fin2 w5 (w.heap.size + 1) code (.slice pa vs.length pn)) (w.heap.size + 2) 0 (.slice none 0 0))) := Lib.hid (by
    obtain ⟨a1, a2, a3⟩ := rfin_box A5.out code (.slice pa vs.length pn) 0 (.slice none 0 0)
    exact ⟨⟨a1, a2⟩, pa, pn, rfl, ints_off I5.out HPB.out ((rfin_off w5 w.heap.size code (.slice pa vs.length pn) 0 (.slice none 0 0)).mono (fun j _ e => by omega)), a3⟩)
  unfold fin2 at HF
  go_wp2
  generalize (World.setCell (World.setCell (World.setCell (World.setCell w5 _ _) _ _) _ _) _ _) = W at HF ⊢
  obtain ⟨d0, d1, _, _⟩ := HF.out.1.1.cells
  obtain ⟨d2, d3, _, _⟩ := HF.out.1.2.cells
  refine bodyPost_ret (v := .tuple #[.agg #[.int .i64 code, .slice pa vs.length pn], e0]) ?_ rfl HF.out.2
  simp [results, Tryd.results22, go_sem, d0, d1, d2, d3, e0]
end Go.Proofs.YtngfaailbkadfaaDoor
/- yardref7.Read, more ways. -/
namespace Go.Proofs.YtngfaailbkadfaaDoor
open Go.RowKit Go.Extern.Stop Go.Stop Go.Extern

set_option maxRecDepth 100000 in
set_option maxHeartbeats 4000000 in
theorem rread_x2 (r : Rq) (ua : Option Addr) (un : Nat) (v : Value) (d : List UInt8) (w : World) (hu : IntsAt w (.slice ua r.vs.length un) r.vs) (hv : BytesAt w v d) (hl : r.vs.length ≤ 3000) (hld : d.length ≤ 3000) (hm : r.may = true) (h0 : 0 < d.length) (h1 : fB d = r.f + 128) (hcap : ∀ ao n cap, v = .slice ao n cap → n ≤ cap) (hk : rpOk r d) (he : (ansF r (rpF r d) == d) = false) : Calls Tryd.prog 22 #[.agg #[.int .i64 r.f, .int .i64 r.s, .int .i64 r.c, .slice ua r.vs.length un], v] w (RRdNo w (fB d) 4) := by
  have HRY : Hid (∀ W, BytesAt W v d → Calls Tryd.prog 47 #[.agg #[.int .i64 r.f, .int .i64 r.s, .int .i64 r.c, .slice ua r.vs.length un], v] W (RplOk W (rpF r d).code (rpF r d).vs)) := Lib.hid (fun W h => rpl_yes r _ v d W h hld h0 hm hcap hk)
  have HTD : Hid (∀ (pv : Value) (W : World), IntsAt W (.slice ua r.vs.length un) r.vs → IntsAt W pv (rpF r d).vs → Calls Tryd.prog 45 #[.agg #[.int .i64 r.f, .int .i64 r.s, .int .i64 r.c, .slice ua r.vs.length un], .agg #[.int .i64 (rpF r d).code, pv]] W (ToldIs W (ansF r (rpF r d)))) := Lib.hid (fun pv W h1 h2 => told_any r (rpF r d) _ pv W h1 h2 hm (rp_may hm hk) hl (rpF_len r d hm))
  have HEQ : Hid ((ansF r (rpF r d) == d) = false) := Lib.hid he
  generalize ansF r (rpF r d) = out at *
  generalize rpF r d = p at *
  obtain ⟨code, vs⟩ := p
  dsimp only at HRY HTD ⊢
  have HMM : Hid (mayB r.f r.s r.c r.vs = true) := Lib.hid hm
  have hfb := f_ok hm
  have hd0 : ((d.length : Int) == 0) = false := beq_eq_false_iff_ne.2 (by omega)
  have hdp : (0 : Int) < (d.length : Int) := by omega
  have HD0 := Lib.hid h0
  have hylt := getD_lt d 0
  have HY0 : Hid (∃ b off, (∃ n cc, v = .slice (some ⟨b, off, none⟩) n cc) ∧ w.cell? ⟨b, off, none⟩ = some (.int .u8 ((d.getD 0 0).toNat : Int))) := Lib.hid (by
    obtain ⟨b, off, cap, rfl, p0⟩ := bytes_getD hv 0 h0
    exact ⟨b, off, ⟨_, _, rfl⟩, by simpa using p0⟩)
  have hyd : Hid (fB d = ((d.getD 0 0).toNat : Int)) := Lib.hid rfl
  generalize hyy : (d.getD 0 0).toNat = y at *
  have hw1 : IntKind.i64.wrap (y : Int) = (y : Int) := by rw [IntKind.wrap_i64]; omega
  have hw2 : IntKind.i64.wrap (r.f + 128) = r.f + 128 := by rw [IntKind.wrap_i64]; omega
  rw [hyd.out] at h1 ⊢
  have e1 : ((y : Int) != r.f) = true := bne_iff_ne.2 (by omega)
  have e2 : ((y : Int) != r.f + 128) = false := by rw [h1]; simp
  obtain ⟨f, s, c, us⟩ := r
  dsimp only at *
  have HUS := Lib.hid hu
  have HV := Lib.hid hv
  have HL := Lib.hid (And.intro hl hld)
  obtain ⟨da, dn, rfl, _⟩ := id hv
  obtain ⟨wx, hwx⟩ : ∃ wx, wx = ((w.alloc (.cells #[.int .i64 f, .int .i64 s, .int .i64 c, .slice ua us.length un] 38)).alloc (.cells #[.int .i64 0, .slice none 0 0] 55)).alloc (.cells #[.int .i64 0, .slice none 0 0] 35) := ⟨_, rfl⟩
  have A0 : Hid (RD w wx f s c (.slice ua us.length un)) := Lib.hid (by rw [hwx]; exact rd_new _ _ _ _ _)
  have q0 : (((w.alloc (.cells #[.int .i64 f, .int .i64 s, .int .i64 c, .slice ua us.length un] 38)).alloc (.cells #[.int .i64 0, .slice none 0 0] 55)).alloc (.cells #[.int .i64 0, .slice none 0 0] 35)).cell? ⟨w.heap.size, 0, none⟩ = some (.int .i64 f) := by rw [← hwx]; exact A0.out.q.cells.1
  have q1 : (((w.alloc (.cells #[.int .i64 f, .int .i64 s, .int .i64 c, .slice ua us.length un] 38)).alloc (.cells #[.int .i64 0, .slice none 0 0] 55)).alloc (.cells #[.int .i64 0, .slice none 0 0] 35)).cell? ⟨w.heap.size, 1, none⟩ = some (.int .i64 s) := by rw [← hwx]; exact A0.out.q.cells.2.1
  have q2 : (((w.alloc (.cells #[.int .i64 f, .int .i64 s, .int .i64 c, .slice ua us.length un] 38)).alloc (.cells #[.int .i64 0, .slice none 0 0] 55)).alloc (.cells #[.int .i64 0, .slice none 0 0] 35)).cell? ⟨w.heap.size, 2, none⟩ = some (.int .i64 c) := by rw [← hwx]; exact A0.out.q.cells.2.2.1
  have q3 : (((w.alloc (.cells #[.int .i64 f, .int .i64 s, .int .i64 c, .slice ua us.length un] 38)).alloc (.cells #[.int .i64 0, .slice none 0 0] 55)).alloc (.cells #[.int .i64 0, .slice none 0 0] 35)).cell? ⟨w.heap.size, 3, none⟩ = some (.slice ua us.length un) := by rw [← hwx]; exact A0.out.q.cells.2.2.2
  clear hu hv hl hld hm h0 h1 hk he hcap hfb hylt hyy
  go_enter Tryd.func22, Tryd.ntmps22
  go_wp2_with fail
  rw [← hwx]
  clear hwx q0 q1 q2 q3
  refine (rmay_any f s c _ us wx (HUS.out.on A0.out.below) (by have := HL.out; omega)).mono ?_
  rintro e w1 ⟨rfl, hb⟩
  rw [HMM.out]
  have A1 := Lib.hid (A0.out.on hb)
  clear hb
  obtain ⟨c0, c1, c2, c3⟩ := A1.out.q.cells
  obtain ⟨yb, yo, ⟨yn, yc, hye⟩, hyc⟩ := HY0.out
  simp only [Value.slice.injEq] at hye
  obtain ⟨rfl, -, -⟩ := hye
  have x1 := (A1.out.below.cell (p := ⟨yb, yo, none⟩) (lt_cell hyc)).trans hyc
  have HYC := Lib.hid hyc
  clear hyc
  go_wp2_with fail
  go_quiet (fail)
  generalize hw9 : w1.drewN nq = w2
  have A2 : Hid (RD w w2 f s c (.slice ua us.length un)) := Lib.hid (by rw [← hw9]; exact A1.out.on (below_drewN (Below.refl _ _) nq))
  clear hw9 x1 c0 c1 c2 c3
  obtain ⟨c0, c1, c2, c3⟩ := A2.out.q.cells
  have x2 := (A2.out.below.cell (p := ⟨yb, yo, none⟩) (lt_cell HYC.out)).trans HYC.out
  go_wp2_with fail
  refine (HRY.out w2 (HV.out.on A2.out.below)).mono ?_
  rintro e w3 ⟨pa, pn, rfl, hp, hpb, hb⟩
  have HPB : Hid (∀ q, pa = some q → w.heap.size + 3 ≤ q.block) := Lib.hid (fun q e => by have h1 := hpb q e; have h2 := lt_heap A2.out.e; omega)
  have hnb := below_new w3 (.cells #[.int .i64 code, .slice pa vs.length pn] 55)
  have A3 := Lib.hid ((A2.out.on hb).on hnb)
  have I3 := Lib.hid (hp.on hnb)
  have B3 : Hid (BoxS (w3.alloc (.cells #[.int .i64 code, .slice pa vs.length pn] 55)) w3.heap.size code (.slice pa vs.length pn)) := Lib.hid (heap_alloc_new w3 _)
  clear hb hnb hp hpb x2 c0 c1 c2 c3
  obtain ⟨c0, c1, c2, c3⟩ := A3.out.q.cells
  obtain ⟨m0, m1, _, _⟩ := B3.out.cells
  go_wp2_with fail
  generalize w3.alloc (.cells #[.int .i64 code, .slice pa vs.length pn] 55) = w4 at *
  generalize w3.heap.size = k6 at *
  refine (HTD.out (.slice pa vs.length pn) w4 (HUS.out.on A3.out.below) I3.out).mono ?_
  rintro e w5 ⟨ta, tn, rfl, ht, hb⟩
  have A5 := Lib.hid (A3.out.on hb)
  have I5 := Lib.hid (I3.out.on hb)
  have B5 := Lib.hid (B3.out.on hb)
  have T5 := Lib.hid ht
  clear hb ht c0 c1 c2 c3 m0 m1
  go_wp2_with fail
  refine (alike_any _ _ out d w5 T5.out (HV.out.on A5.out.below)).mono ?_
  rintro e w6 ⟨rfl, rfl⟩
  rw [HEQ.out]
  have x5 := (A5.out.below.cell (p := ⟨yb, yo, none⟩) (lt_cell HYC.out)).trans HYC.out
  go_wp2_with fail
  refine (mk_rd (y : Int) 4 w _ A5.out).mono ?_
  rintro e wa ⟨g, rfl, HA⟩
  (try clear c0 c1 c2 c3)
  obtain ⟨b0, b1, z0, z1⟩ := HA.out.1.p.cells
  obtain ⟨k0, k1, z2, z3⟩ := HA.out.1.e.cells
  have HF := Lib.hid (rd_end (c' := 4) HA.out.1 HA.out.2.1 HA.out.2.2.1 HA.out.2.2.2)
  unfold fin2 at HF
  go_wp2
  generalize (World.setCell (World.setCell (World.setCell (World.setCell wa _ _) _ _) _ _) _ _) = W at HF ⊢
  obtain ⟨d0, d1, _, _⟩ := HF.out.1.1.cells
  obtain ⟨d2, d3, _, _⟩ := HF.out.1.2.cells
  refine bodyPost_ret (v := .tuple #[.agg #[.int .i64 0, .slice none 0 0], .agg #[.int .i64 4, .slice (some ⟨g, 0, none⟩) 1 1]]) ?_ rfl HF.out.2
  simp [results, Tryd.results22, go_sem, d0, d1, d2, d3]
end Go.Proofs.YtngfaailbkadfaaDoor
/- yardref7.Read, more ways. -/
namespace Go.Proofs.YtngfaailbkadfaaDoor
open Go.RowKit Go.Extern.Stop Go.Stop Go.Extern

set_option maxRecDepth 100000 in
set_option maxHeartbeats 4000000 in
theorem rread_x1 (r : Rq) (ua : Option Addr) (un : Nat) (v : Value) (d : List UInt8) (w : World) (hu : IntsAt w (.slice ua r.vs.length un) r.vs) (hv : BytesAt w v d) (hl : r.vs.length ≤ 3000) (hld : d.length ≤ 3000) (hm : r.may = true) (h0 : 0 < d.length) (h1 : fB d = r.f + 128) (hk : ¬ rpOk r d) : Calls Tryd.prog 22 #[.agg #[.int .i64 r.f, .int .i64 r.s, .int .i64 r.c, .slice ua r.vs.length un], v] w (RRdNo w (fB d) 4) := by
  have HRN : Hid (∀ W, BytesAt W v d → Calls Tryd.prog 47 #[.agg #[.int .i64 r.f, .int .i64 r.s, .int .i64 r.c, .slice ua r.vs.length un], v] W (RplNo W)) := Lib.hid (fun W h => rpl_not r _ v d W h hld h0 hm hk)
  have HMM : Hid (mayB r.f r.s r.c r.vs = true) := Lib.hid hm
  have hfb := f_ok hm
  have hd0 : ((d.length : Int) == 0) = false := beq_eq_false_iff_ne.2 (by omega)
  have hdp : (0 : Int) < (d.length : Int) := by omega
  have HD0 := Lib.hid h0
  have hylt := getD_lt d 0
  have HY0 : Hid (∃ b off, (∃ n cc, v = .slice (some ⟨b, off, none⟩) n cc) ∧ w.cell? ⟨b, off, none⟩ = some (.int .u8 ((d.getD 0 0).toNat : Int))) := Lib.hid (by
    obtain ⟨b, off, cap, rfl, p0⟩ := bytes_getD hv 0 h0
    exact ⟨b, off, ⟨_, _, rfl⟩, by simpa using p0⟩)
  have hyd : Hid (fB d = ((d.getD 0 0).toNat : Int)) := Lib.hid rfl
  generalize hyy : (d.getD 0 0).toNat = y at *
  have hw1 : IntKind.i64.wrap (y : Int) = (y : Int) := by rw [IntKind.wrap_i64]; omega
  have hw2 : IntKind.i64.wrap (r.f + 128) = r.f + 128 := by rw [IntKind.wrap_i64]; omega
  rw [hyd.out] at h1 ⊢
  have e1 : ((y : Int) != r.f) = true := bne_iff_ne.2 (by omega)
  have e2 : ((y : Int) != r.f + 128) = false := by rw [h1]; simp
  obtain ⟨f, s, c, us⟩ := r
  dsimp only at *
  have HUS := Lib.hid hu
  have HV := Lib.hid hv
  have HL := Lib.hid (And.intro hl hld)
  obtain ⟨da, dn, rfl, _⟩ := id hv
  obtain ⟨wx, hwx⟩ : ∃ wx, wx = ((w.alloc (.cells #[.int .i64 f, .int .i64 s, .int .i64 c, .slice ua us.length un] 38)).alloc (.cells #[.int .i64 0, .slice none 0 0] 55)).alloc (.cells #[.int .i64 0, .slice none 0 0] 35) := ⟨_, rfl⟩
  have A0 : Hid (RD w wx f s c (.slice ua us.length un)) := Lib.hid (by rw [hwx]; exact rd_new _ _ _ _ _)
  have q0 : (((w.alloc (.cells #[.int .i64 f, .int .i64 s, .int .i64 c, .slice ua us.length un] 38)).alloc (.cells #[.int .i64 0, .slice none 0 0] 55)).alloc (.cells #[.int .i64 0, .slice none 0 0] 35)).cell? ⟨w.heap.size, 0, none⟩ = some (.int .i64 f) := by rw [← hwx]; exact A0.out.q.cells.1
  have q1 : (((w.alloc (.cells #[.int .i64 f, .int .i64 s, .int .i64 c, .slice ua us.length un] 38)).alloc (.cells #[.int .i64 0, .slice none 0 0] 55)).alloc (.cells #[.int .i64 0, .slice none 0 0] 35)).cell? ⟨w.heap.size, 1, none⟩ = some (.int .i64 s) := by rw [← hwx]; exact A0.out.q.cells.2.1
  have q2 : (((w.alloc (.cells #[.int .i64 f, .int .i64 s, .int .i64 c, .slice ua us.length un] 38)).alloc (.cells #[.int .i64 0, .slice none 0 0] 55)).alloc (.cells #[.int .i64 0, .slice none 0 0] 35)).cell? ⟨w.heap.size, 2, none⟩ = some (.int .i64 c) := by rw [← hwx]; exact A0.out.q.cells.2.2.1
  have q3 : (((w.alloc (.cells #[.int .i64 f, .int .i64 s, .int .i64 c, .slice ua us.length un] 38)).alloc (.cells #[.int .i64 0, .slice none 0 0] 55)).alloc (.cells #[.int .i64 0, .slice none 0 0] 35)).cell? ⟨w.heap.size, 3, none⟩ = some (.slice ua us.length un) := by rw [← hwx]; exact A0.out.q.cells.2.2.2
  clear hu hv hl hld hm h0 h1 hk hfb hylt hyy
  go_enter Tryd.func22, Tryd.ntmps22
  go_wp2_with fail
  rw [← hwx]
  clear hwx q0 q1 q2 q3
  refine (rmay_any f s c _ us wx (HUS.out.on A0.out.below) (by have := HL.out; omega)).mono ?_
  rintro e w1 ⟨rfl, hb⟩
  rw [HMM.out]
  have A1 := Lib.hid (A0.out.on hb)
  clear hb
  obtain ⟨c0, c1, c2, c3⟩ := A1.out.q.cells
  obtain ⟨yb, yo, ⟨yn, yc, hye⟩, hyc⟩ := HY0.out
  simp only [Value.slice.injEq] at hye
  obtain ⟨rfl, -, -⟩ := hye
  have x1 := (A1.out.below.cell (p := ⟨yb, yo, none⟩) (lt_cell hyc)).trans hyc
  have HYC := Lib.hid hyc
  clear hyc
  go_wp2_with fail
  go_quiet (fail)
  generalize hw9 : w1.drewN nq = w2
  have A2 : Hid (RD w w2 f s c (.slice ua us.length un)) := Lib.hid (by rw [← hw9]; exact A1.out.on (below_drewN (Below.refl _ _) nq))
  clear hw9 x1 c0 c1 c2 c3
  obtain ⟨c0, c1, c2, c3⟩ := A2.out.q.cells
  have x2 := (A2.out.below.cell (p := ⟨yb, yo, none⟩) (lt_cell HYC.out)).trans HYC.out
  go_wp2_with fail
  refine (HRN.out w2 (HV.out.on A2.out.below)).mono ?_
  rintro e w3 ⟨rfl, hb⟩
  have hnb := below_new w3 (.cells #[.int .i64 0, .slice none 0 0] 55)
  have A3 := Lib.hid ((A2.out.on hb).on hnb)
  have x3 := (A3.out.below.cell (p := ⟨yb, yo, none⟩) (lt_cell HYC.out)).trans HYC.out
  clear hb hnb x2 c0 c1 c2 c3
  go_wp2_with fail
  generalize w3.alloc (.cells #[.int .i64 0, .slice none 0 0] 55) = w4 at *
  refine (mk_rd (y : Int) 4 w _ A3.out).mono ?_
  rintro e wa ⟨g, rfl, HA⟩
  (try clear c0 c1 c2 c3)
  obtain ⟨b0, b1, z0, z1⟩ := HA.out.1.p.cells
  obtain ⟨k0, k1, z2, z3⟩ := HA.out.1.e.cells
  have HF := Lib.hid (rd_end (c' := 4) HA.out.1 HA.out.2.1 HA.out.2.2.1 HA.out.2.2.2)
  unfold fin2 at HF
  go_wp2
  generalize (World.setCell (World.setCell (World.setCell (World.setCell wa _ _) _ _) _ _) _ _) = W at HF ⊢
  obtain ⟨d0, d1, _, _⟩ := HF.out.1.1.cells
  obtain ⟨d2, d3, _, _⟩ := HF.out.1.2.cells
  refine bodyPost_ret (v := .tuple #[.agg #[.int .i64 0, .slice none 0 0], .agg #[.int .i64 4, .slice (some ⟨g, 0, none⟩) 1 1]]) ?_ rfl HF.out.2
  simp [results, Tryd.results22, go_sem, d0, d1, d2, d3]
end Go.Proofs.YtngfaailbkadfaaDoor
/- yardref7.Read, more ways. -/
namespace Go.Proofs.YtngfaailbkadfaaDoor
open Go.RowKit Go.Extern.Stop Go.Stop Go.Extern

set_option maxRecDepth 100000 in
set_option maxHeartbeats 4000000 in
theorem rread_f3 (r : Rq) (ua : Option Addr) (un : Nat) (v : Value) (d : List UInt8) (w : World) (hu : IntsAt w (.slice ua r.vs.length un) r.vs) (hv : BytesAt w v d) (hl : r.vs.length ≤ 3000) (hld : d.length ≤ 3000) (hm : r.may = true) (h0 : 0 < d.length) (h1 : fB d = r.f) (hcap : ∀ ao n cap, v = .slice ao n cap → n ≤ cap) (hk : rpOk r d) (he : (ansF r (rpF r d) == d) = true) : Calls Tryd.prog 22 #[.agg #[.int .i64 r.f, .int .i64 r.s, .int .i64 r.c, .slice ua r.vs.length un], v] w (RRdOk w (rpF r d)) := by
  have HRY : Hid (∀ W, BytesAt W v d → Calls Tryd.prog 47 #[.agg #[.int .i64 r.f, .int .i64 r.s, .int .i64 r.c, .slice ua r.vs.length un], v] W (RplOk W (rpF r d).code (rpF r d).vs)) := Lib.hid (fun W h => rpl_yes r _ v d W h hld h0 hm hcap hk)
  have HTD : Hid (∀ (pv : Value) (W : World), IntsAt W (.slice ua r.vs.length un) r.vs → IntsAt W pv (rpF r d).vs → Calls Tryd.prog 45 #[.agg #[.int .i64 r.f, .int .i64 r.s, .int .i64 r.c, .slice ua r.vs.length un], .agg #[.int .i64 (rpF r d).code, pv]] W (ToldIs W (ansF r (rpF r d)))) := Lib.hid (fun pv W h1 h2 => told_any r (rpF r d) _ pv W h1 h2 hm (rp_may hm hk) hl (rpF_len r d hm))
  have HEQ : Hid ((ansF r (rpF r d) == d) = true) := Lib.hid he
  generalize ansF r (rpF r d) = out at *
  generalize rpF r d = p at *
  obtain ⟨code, vs⟩ := p
  dsimp only at HRY HTD ⊢
  have HMM : Hid (mayB r.f r.s r.c r.vs = true) := Lib.hid hm
  have hfb := f_ok hm
  have hd0 : ((d.length : Int) == 0) = false := beq_eq_false_iff_ne.2 (by omega)
  have hdp : (0 : Int) < (d.length : Int) := by omega
  have HD0 := Lib.hid h0
  have hylt := getD_lt d 0
  have HY0 : Hid (∃ b off, (∃ n cc, v = .slice (some ⟨b, off, none⟩) n cc) ∧ w.cell? ⟨b, off, none⟩ = some (.int .u8 ((d.getD 0 0).toNat : Int))) := Lib.hid (by
    obtain ⟨b, off, cap, rfl, p0⟩ := bytes_getD hv 0 h0
    exact ⟨b, off, ⟨_, _, rfl⟩, by simpa using p0⟩)
  have hyd : Hid (fB d = ((d.getD 0 0).toNat : Int)) := Lib.hid rfl
  generalize hyy : (d.getD 0 0).toNat = y at *
  have hw1 : IntKind.i64.wrap (y : Int) = (y : Int) := by rw [IntKind.wrap_i64]; omega
  have hw2 : IntKind.i64.wrap (r.f + 128) = r.f + 128 := by rw [IntKind.wrap_i64]; omega
  rw [hyd.out] at h1
  have e1 : ((y : Int) != r.f) = false := by rw [h1]; simp
  obtain ⟨f, s, c, us⟩ := r
  dsimp only at *
  have HUS := Lib.hid hu
  have HV := Lib.hid hv
  have HL := Lib.hid (And.intro hl hld)
  obtain ⟨da, dn, rfl, _⟩ := id hv
  obtain ⟨wx, hwx⟩ : ∃ wx, wx = ((w.alloc (.cells #[.int .i64 f, .int .i64 s, .int .i64 c, .slice ua us.length un] 38)).alloc (.cells #[.int .i64 0, .slice none 0 0] 55)).alloc (.cells #[.int .i64 0, .slice none 0 0] 35) := ⟨_, rfl⟩
  have A0 : Hid (RD w wx f s c (.slice ua us.length un)) := Lib.hid (by rw [hwx]; exact rd_new _ _ _ _ _)
  have q0 : (((w.alloc (.cells #[.int .i64 f, .int .i64 s, .int .i64 c, .slice ua us.length un] 38)).alloc (.cells #[.int .i64 0, .slice none 0 0] 55)).alloc (.cells #[.int .i64 0, .slice none 0 0] 35)).cell? ⟨w.heap.size, 0, none⟩ = some (.int .i64 f) := by rw [← hwx]; exact A0.out.q.cells.1
  have q1 : (((w.alloc (.cells #[.int .i64 f, .int .i64 s, .int .i64 c, .slice ua us.length un] 38)).alloc (.cells #[.int .i64 0, .slice none 0 0] 55)).alloc (.cells #[.int .i64 0, .slice none 0 0] 35)).cell? ⟨w.heap.size, 1, none⟩ = some (.int .i64 s) := by rw [← hwx]; exact A0.out.q.cells.2.1
  have q2 : (((w.alloc (.cells #[.int .i64 f, .int .i64 s, .int .i64 c, .slice ua us.length un] 38)).alloc (.cells #[.int .i64 0, .slice none 0 0] 55)).alloc (.cells #[.int .i64 0, .slice none 0 0] 35)).cell? ⟨w.heap.size, 2, none⟩ = some (.int .i64 c) := by rw [← hwx]; exact A0.out.q.cells.2.2.1
  have q3 : (((w.alloc (.cells #[.int .i64 f, .int .i64 s, .int .i64 c, .slice ua us.length un] 38)).alloc (.cells #[.int .i64 0, .slice none 0 0] 55)).alloc (.cells #[.int .i64 0, .slice none 0 0] 35)).cell? ⟨w.heap.size, 3, none⟩ = some (.slice ua us.length un) := by rw [← hwx]; exact A0.out.q.cells.2.2.2
  clear hu hv hl hld hm h0 h1 hk he hcap hfb hylt hyy
  go_enter Tryd.func22, Tryd.ntmps22
  go_wp2_with fail
  rw [← hwx]
  clear hwx q0 q1 q2 q3
  refine (rmay_any f s c _ us wx (HUS.out.on A0.out.below) (by have := HL.out; omega)).mono ?_
  rintro e w1 ⟨rfl, hb⟩
  rw [HMM.out]
  have A1 := Lib.hid (A0.out.on hb)
  clear hb
  obtain ⟨c0, c1, c2, c3⟩ := A1.out.q.cells
  obtain ⟨yb, yo, ⟨yn, yc, hye⟩, hyc⟩ := HY0.out
  simp only [Value.slice.injEq] at hye
  obtain ⟨rfl, -, -⟩ := hye
  have x1 := (A1.out.below.cell (p := ⟨yb, yo, none⟩) (lt_cell hyc)).trans hyc
  have HYC := Lib.hid hyc
  clear hyc
  go_wp2_with fail
  go_quiet (fail)
  generalize hw9 : w1.drewN nq = w2
  have A2 : Hid (RD w w2 f s c (.slice ua us.length un)) := Lib.hid (by rw [← hw9]; exact A1.out.on (below_drewN (Below.refl _ _) nq))
  clear hw9 x1 c0 c1 c2 c3
  obtain ⟨c0, c1, c2, c3⟩ := A2.out.q.cells
  have x2 := (A2.out.below.cell (p := ⟨yb, yo, none⟩) (lt_cell HYC.out)).trans HYC.out
  go_wp2_with fail
  refine (HRY.out w2 (HV.out.on A2.out.below)).mono ?_
  rintro e w3 ⟨pa, pn, rfl, hp, hpb, hb⟩
  have HPB : Hid (∀ q, pa = some q → w.heap.size + 3 ≤ q.block) := Lib.hid (fun q e => by have h1 := hpb q e; have h2 := lt_heap A2.out.e; omega)
  have hnb := below_new w3 (.cells #[.int .i64 code, .slice pa vs.length pn] 55)
  have A3 := Lib.hid ((A2.out.on hb).on hnb)
  have I3 := Lib.hid (hp.on hnb)
  have B3 : Hid (BoxS (w3.alloc (.cells #[.int .i64 code, .slice pa vs.length pn] 55)) w3.heap.size code (.slice pa vs.length pn)) := Lib.hid (heap_alloc_new w3 _)
  clear hb hnb hp hpb x2 c0 c1 c2 c3
  obtain ⟨c0, c1, c2, c3⟩ := A3.out.q.cells
  obtain ⟨m0, m1, _, _⟩ := B3.out.cells
  go_wp2_with fail
  generalize w3.alloc (.cells #[.int .i64 code, .slice pa vs.length pn] 55) = w4 at *
  generalize w3.heap.size = k6 at *
  refine (HTD.out (.slice pa vs.length pn) w4 (HUS.out.on A3.out.below) I3.out).mono ?_
  rintro e w5 ⟨ta, tn, rfl, ht, hb⟩
  have A5 := Lib.hid (A3.out.on hb)
  have I5 := Lib.hid (I3.out.on hb)
  have B5 := Lib.hid (B3.out.on hb)
  have T5 := Lib.hid ht
  clear hb ht c0 c1 c2 c3 m0 m1
  go_wp2_with fail
  refine (alike_any _ _ out d w5 T5.out (HV.out.on A5.out.below)).mono ?_
  rintro e w6 ⟨rfl, rfl⟩
  rw [HEQ.out]
  obtain ⟨m0, m1, _, _⟩ := B5.out.cells
  obtain ⟨b0, b1, z0, z1⟩ := A5.out.p.cells
  obtain ⟨k0, k1, z2, z3⟩ := A5.out.e.cells
  have HF : Hid ((BoxS (fin2 (fin2 w5 (w.heap.size + 1) code (.slice pa vs.length pn)) (w.heap.size + 2) 0 (.slice none 0 0)) (w.heap.size + 1) code (.slice pa vs.length pn) ∧ BoxE (fin2 (fin2 w5 (w.heap.size + 1) code (.slice pa vs.length pn)) (w.heap.size + 2) 0 (.slice none 0 0)) (w.heap.size + 2) 0 (.slice none 0 0)) ∧ RRdOk w ⟨code, vs⟩ (.returned (.tuple #[.agg #[.int .i64 code, .slice pa vs.length pn], e0])) (fin2 (fin2 w5 (w.heap.size + 1) code (.slice pa vs.length pn)) (w.heap.size + 2) 0 (.slice none 0 0))) := Lib.hid (by
    obtain ⟨a1, a2, a3⟩ := rfin_box A5.out code (.slice pa vs.length pn) 0 (.slice none 0 0)
    exact ⟨⟨a1, a2⟩, pa, pn, rfl, ints_off I5.out HPB.out ((rfin_off w5 w.heap.size code (.slice pa vs.length pn) 0 (.slice none 0 0)).mono (fun j _ e => by omega)), a3⟩)
  unfold fin2 at HF
  go_wp2
  generalize (World.setCell (World.setCell (World.setCell (World.setCell w5 _ _) _ _) _ _) _ _) = W at HF ⊢
  obtain ⟨d0, d1, _, _⟩ := HF.out.1.1.cells
  obtain ⟨d2, d3, _, _⟩ := HF.out.1.2.cells
  refine bodyPost_ret (v := .tuple #[.agg #[.int .i64 code, .slice pa vs.length pn], e0]) ?_ rfl HF.out.2
  simp [results, Tryd.results22, go_sem, d0, d1, d2, d3, e0]
end Go.Proofs.YtngfaailbkadfaaDoor
/- yardref7.Read, more ways. -/
namespace Go.Proofs.YtngfaailbkadfaaDoor
open Go.RowKit Go.Extern.Stop Go.Stop Go.Extern

set_option maxRecDepth 100000 in
set_option maxHeartbeats 4000000 in
theorem rread_f2 (r : Rq) (ua : Option Addr) (un : Nat) (v : Value) (d : List UInt8) (w : World) (hu : IntsAt w (.slice ua r.vs.length un) r.vs) (hv : BytesAt w v d) (hl : r.vs.length ≤ 3000) (hld : d.length ≤ 3000) (hm : r.may = true) (h0 : 0 < d.length) (h1 : fB d = r.f) (hcap : ∀ ao n cap, v = .slice ao n cap → n ≤ cap) (hk : rpOk r d) (he : (ansF r (rpF r d) == d) = false) : Calls Tryd.prog 22 #[.agg #[.int .i64 r.f, .int .i64 r.s, .int .i64 r.c, .slice ua r.vs.length un], v] w (RRdNo w (fB d) 4) := by
  have HRY : Hid (∀ W, BytesAt W v d → Calls Tryd.prog 47 #[.agg #[.int .i64 r.f, .int .i64 r.s, .int .i64 r.c, .slice ua r.vs.length un], v] W (RplOk W (rpF r d).code (rpF r d).vs)) := Lib.hid (fun W h => rpl_yes r _ v d W h hld h0 hm hcap hk)
  have HTD : Hid (∀ (pv : Value) (W : World), IntsAt W (.slice ua r.vs.length un) r.vs → IntsAt W pv (rpF r d).vs → Calls Tryd.prog 45 #[.agg #[.int .i64 r.f, .int .i64 r.s, .int .i64 r.c, .slice ua r.vs.length un], .agg #[.int .i64 (rpF r d).code, pv]] W (ToldIs W (ansF r (rpF r d)))) := Lib.hid (fun pv W h1 h2 => told_any r (rpF r d) _ pv W h1 h2 hm (rp_may hm hk) hl (rpF_len r d hm))
  have HEQ : Hid ((ansF r (rpF r d) == d) = false) := Lib.hid he
  generalize ansF r (rpF r d) = out at *
  generalize rpF r d = p at *
  obtain ⟨code, vs⟩ := p
  dsimp only at HRY HTD ⊢
  have HMM : Hid (mayB r.f r.s r.c r.vs = true) := Lib.hid hm
  have hfb := f_ok hm
  have hd0 : ((d.length : Int) == 0) = false := beq_eq_false_iff_ne.2 (by omega)
  have hdp : (0 : Int) < (d.length : Int) := by omega
  have HD0 := Lib.hid h0
  have hylt := getD_lt d 0
  have HY0 : Hid (∃ b off, (∃ n cc, v = .slice (some ⟨b, off, none⟩) n cc) ∧ w.cell? ⟨b, off, none⟩ = some (.int .u8 ((d.getD 0 0).toNat : Int))) := Lib.hid (by
    obtain ⟨b, off, cap, rfl, p0⟩ := bytes_getD hv 0 h0
    exact ⟨b, off, ⟨_, _, rfl⟩, by simpa using p0⟩)
  have hyd : Hid (fB d = ((d.getD 0 0).toNat : Int)) := Lib.hid rfl
  generalize hyy : (d.getD 0 0).toNat = y at *
  have hw1 : IntKind.i64.wrap (y : Int) = (y : Int) := by rw [IntKind.wrap_i64]; omega
  have hw2 : IntKind.i64.wrap (r.f + 128) = r.f + 128 := by rw [IntKind.wrap_i64]; omega
  rw [hyd.out] at h1 ⊢
  have e1 : ((y : Int) != r.f) = false := by rw [h1]; simp
  obtain ⟨f, s, c, us⟩ := r
  dsimp only at *
  have HUS := Lib.hid hu
  have HV := Lib.hid hv
  have HL := Lib.hid (And.intro hl hld)
  obtain ⟨da, dn, rfl, _⟩ := id hv
  obtain ⟨wx, hwx⟩ : ∃ wx, wx = ((w.alloc (.cells #[.int .i64 f, .int .i64 s, .int .i64 c, .slice ua us.length un] 38)).alloc (.cells #[.int .i64 0, .slice none 0 0] 55)).alloc (.cells #[.int .i64 0, .slice none 0 0] 35) := ⟨_, rfl⟩
  have A0 : Hid (RD w wx f s c (.slice ua us.length un)) := Lib.hid (by rw [hwx]; exact rd_new _ _ _ _ _)
  have q0 : (((w.alloc (.cells #[.int .i64 f, .int .i64 s, .int .i64 c, .slice ua us.length un] 38)).alloc (.cells #[.int .i64 0, .slice none 0 0] 55)).alloc (.cells #[.int .i64 0, .slice none 0 0] 35)).cell? ⟨w.heap.size, 0, none⟩ = some (.int .i64 f) := by rw [← hwx]; exact A0.out.q.cells.1
  have q1 : (((w.alloc (.cells #[.int .i64 f, .int .i64 s, .int .i64 c, .slice ua us.length un] 38)).alloc (.cells #[.int .i64 0, .slice none 0 0] 55)).alloc (.cells #[.int .i64 0, .slice none 0 0] 35)).cell? ⟨w.heap.size, 1, none⟩ = some (.int .i64 s) := by rw [← hwx]; exact A0.out.q.cells.2.1
  have q2 : (((w.alloc (.cells #[.int .i64 f, .int .i64 s, .int .i64 c, .slice ua us.length un] 38)).alloc (.cells #[.int .i64 0, .slice none 0 0] 55)).alloc (.cells #[.int .i64 0, .slice none 0 0] 35)).cell? ⟨w.heap.size, 2, none⟩ = some (.int .i64 c) := by rw [← hwx]; exact A0.out.q.cells.2.2.1
  have q3 : (((w.alloc (.cells #[.int .i64 f, .int .i64 s, .int .i64 c, .slice ua us.length un] 38)).alloc (.cells #[.int .i64 0, .slice none 0 0] 55)).alloc (.cells #[.int .i64 0, .slice none 0 0] 35)).cell? ⟨w.heap.size, 3, none⟩ = some (.slice ua us.length un) := by rw [← hwx]; exact A0.out.q.cells.2.2.2
  clear hu hv hl hld hm h0 h1 hk he hcap hfb hylt hyy
  go_enter Tryd.func22, Tryd.ntmps22
  go_wp2_with fail
  rw [← hwx]
  clear hwx q0 q1 q2 q3
  refine (rmay_any f s c _ us wx (HUS.out.on A0.out.below) (by have := HL.out; omega)).mono ?_
  rintro e w1 ⟨rfl, hb⟩
  rw [HMM.out]
  have A1 := Lib.hid (A0.out.on hb)
  clear hb
  obtain ⟨c0, c1, c2, c3⟩ := A1.out.q.cells
  obtain ⟨yb, yo, ⟨yn, yc, hye⟩, hyc⟩ := HY0.out
  simp only [Value.slice.injEq] at hye
  obtain ⟨rfl, -, -⟩ := hye
  have x1 := (A1.out.below.cell (p := ⟨yb, yo, none⟩) (lt_cell hyc)).trans hyc
  have HYC := Lib.hid hyc
  clear hyc
  go_wp2_with fail
  go_quiet (fail)
  generalize hw9 : w1.drewN nq = w2
  have A2 : Hid (RD w w2 f s c (.slice ua us.length un)) := Lib.hid (by rw [← hw9]; exact A1.out.on (below_drewN (Below.refl _ _) nq))
  clear hw9 x1 c0 c1 c2 c3
  obtain ⟨c0, c1, c2, c3⟩ := A2.out.q.cells
  have x2 := (A2.out.below.cell (p := ⟨yb, yo, none⟩) (lt_cell HYC.out)).trans HYC.out
  go_wp2_with fail
  refine (HRY.out w2 (HV.out.on A2.out.below)).mono ?_
  rintro e w3 ⟨pa, pn, rfl, hp, hpb, hb⟩
  have HPB : Hid (∀ q, pa = some q → w.heap.size + 3 ≤ q.block) := Lib.hid (fun q e => by have h1 := hpb q e; have h2 := lt_heap A2.out.e; omega)
  have hnb := below_new w3 (.cells #[.int .i64 code, .slice pa vs.length pn] 55)
  have A3 := Lib.hid ((A2.out.on hb).on hnb)
  have I3 := Lib.hid (hp.on hnb)
  have B3 : Hid (BoxS (w3.alloc (.cells #[.int .i64 code, .slice pa vs.length pn] 55)) w3.heap.size code (.slice pa vs.length pn)) := Lib.hid (heap_alloc_new w3 _)
  clear hb hnb hp hpb x2 c0 c1 c2 c3
  obtain ⟨c0, c1, c2, c3⟩ := A3.out.q.cells
  obtain ⟨m0, m1, _, _⟩ := B3.out.cells
  go_wp2_with fail
  generalize w3.alloc (.cells #[.int .i64 code, .slice pa vs.length pn] 55) = w4 at *
  generalize w3.heap.size = k6 at *
  refine (HTD.out (.slice pa vs.length pn) w4 (HUS.out.on A3.out.below) I3.out).mono ?_
  rintro e w5 ⟨ta, tn, rfl, ht, hb⟩
  have A5 := Lib.hid (A3.out.on hb)
  have I5 := Lib.hid (I3.out.on hb)
  have B5 := Lib.hid (B3.out.on hb)
  have T5 := Lib.hid ht
  clear hb ht c0 c1 c2 c3 m0 m1
  go_wp2_with fail
  refine (alike_any _ _ out d w5 T5.out (HV.out.on A5.out.below)).mono ?_
  rintro e w6 ⟨rfl, rfl⟩
  rw [HEQ.out]
  have x5 := (A5.out.below.cell (p := ⟨yb, yo, none⟩) (lt_cell HYC.out)).trans HYC.out
  go_wp2_with fail
  refine (mk_rd (y : Int) 4 w _ A5.out).mono ?_
  rintro e wa ⟨g, rfl, HA⟩
  (try clear c0 c1 c2 c3)
  obtain ⟨b0, b1, z0, z1⟩ := HA.out.1.p.cells
  obtain ⟨k0, k1, z2, z3⟩ := HA.out.1.e.cells
  have HF := Lib.hid (rd_end (c' := 4) HA.out.1 HA.out.2.1 HA.out.2.2.1 HA.out.2.2.2)
  unfold fin2 at HF
  go_wp2
  generalize (World.setCell (World.setCell (World.setCell (World.setCell wa _ _) _ _) _ _) _ _) = W at HF ⊢
  obtain ⟨d0, d1, _, _⟩ := HF.out.1.1.cells
  obtain ⟨d2, d3, _, _⟩ := HF.out.1.2.cells
  refine bodyPost_ret (v := .tuple #[.agg #[.int .i64 0, .slice none 0 0], .agg #[.int .i64 4, .slice (some ⟨g, 0, none⟩) 1 1]]) ?_ rfl HF.out.2
  simp [results, Tryd.results22, go_sem, d0, d1, d2, d3]
end Go.Proofs.YtngfaailbkadfaaDoor
/- yardref7.Read, more ways. -/
namespace Go.Proofs.YtngfaailbkadfaaDoor
open Go.RowKit Go.Extern.Stop Go.Stop Go.Extern

set_option maxRecDepth 100000 in
set_option maxHeartbeats 4000000 in
theorem rread_f1 (r : Rq) (ua : Option Addr) (un : Nat) (v : Value) (d : List UInt8) (w : World) (hu : IntsAt w (.slice ua r.vs.length un) r.vs) (hv : BytesAt w v d) (hl : r.vs.length ≤ 3000) (hld : d.length ≤ 3000) (hm : r.may = true) (h0 : 0 < d.length) (h1 : fB d = r.f) (hk : ¬ rpOk r d) : Calls Tryd.prog 22 #[.agg #[.int .i64 r.f, .int .i64 r.s, .int .i64 r.c, .slice ua r.vs.length un], v] w (RRdNo w (fB d) 4) := by
  have HRN : Hid (∀ W, BytesAt W v d → Calls Tryd.prog 47 #[.agg #[.int .i64 r.f, .int .i64 r.s, .int .i64 r.c, .slice ua r.vs.length un], v] W (RplNo W)) := Lib.hid (fun W h => rpl_not r _ v d W h hld h0 hm hk)
  have HMM : Hid (mayB r.f r.s r.c r.vs = true) := Lib.hid hm
  have hfb := f_ok hm
  have hd0 : ((d.length : Int) == 0) = false := beq_eq_false_iff_ne.2 (by omega)
  have hdp : (0 : Int) < (d.length : Int) := by omega
  have HD0 := Lib.hid h0
  have hylt := getD_lt d 0
  have HY0 : Hid (∃ b off, (∃ n cc, v = .slice (some ⟨b, off, none⟩) n cc) ∧ w.cell? ⟨b, off, none⟩ = some (.int .u8 ((d.getD 0 0).toNat : Int))) := Lib.hid (by
    obtain ⟨b, off, cap, rfl, p0⟩ := bytes_getD hv 0 h0
    exact ⟨b, off, ⟨_, _, rfl⟩, by simpa using p0⟩)
  have hyd : Hid (fB d = ((d.getD 0 0).toNat : Int)) := Lib.hid rfl
  generalize hyy : (d.getD 0 0).toNat = y at *
  have hw1 : IntKind.i64.wrap (y : Int) = (y : Int) := by rw [IntKind.wrap_i64]; omega
  have hw2 : IntKind.i64.wrap (r.f + 128) = r.f + 128 := by rw [IntKind.wrap_i64]; omega
  rw [hyd.out] at h1 ⊢
  have e1 : ((y : Int) != r.f) = false := by rw [h1]; simp
  obtain ⟨f, s, c, us⟩ := r
  dsimp only at *
  have HUS := Lib.hid hu
  have HV := Lib.hid hv
  have HL := Lib.hid (And.intro hl hld)
  obtain ⟨da, dn, rfl, _⟩ := id hv
  obtain ⟨wx, hwx⟩ : ∃ wx, wx = ((w.alloc (.cells #[.int .i64 f, .int .i64 s, .int .i64 c, .slice ua us.length un] 38)).alloc (.cells #[.int .i64 0, .slice none 0 0] 55)).alloc (.cells #[.int .i64 0, .slice none 0 0] 35) := ⟨_, rfl⟩
  have A0 : Hid (RD w wx f s c (.slice ua us.length un)) := Lib.hid (by rw [hwx]; exact rd_new _ _ _ _ _)
  have q0 : (((w.alloc (.cells #[.int .i64 f, .int .i64 s, .int .i64 c, .slice ua us.length un] 38)).alloc (.cells #[.int .i64 0, .slice none 0 0] 55)).alloc (.cells #[.int .i64 0, .slice none 0 0] 35)).cell? ⟨w.heap.size, 0, none⟩ = some (.int .i64 f) := by rw [← hwx]; exact A0.out.q.cells.1
  have q1 : (((w.alloc (.cells #[.int .i64 f, .int .i64 s, .int .i64 c, .slice ua us.length un] 38)).alloc (.cells #[.int .i64 0, .slice none 0 0] 55)).alloc (.cells #[.int .i64 0, .slice none 0 0] 35)).cell? ⟨w.heap.size, 1, none⟩ = some (.int .i64 s) := by rw [← hwx]; exact A0.out.q.cells.2.1
  have q2 : (((w.alloc (.cells #[.int .i64 f, .int .i64 s, .int .i64 c, .slice ua us.length un] 38)).alloc (.cells #[.int .i64 0, .slice none 0 0] 55)).alloc (.cells #[.int .i64 0, .slice none 0 0] 35)).cell? ⟨w.heap.size, 2, none⟩ = some (.int .i64 c) := by rw [← hwx]; exact A0.out.q.cells.2.2.1
  have q3 : (((w.alloc (.cells #[.int .i64 f, .int .i64 s, .int .i64 c, .slice ua us.length un] 38)).alloc (.cells #[.int .i64 0, .slice none 0 0] 55)).alloc (.cells #[.int .i64 0, .slice none 0 0] 35)).cell? ⟨w.heap.size, 3, none⟩ = some (.slice ua us.length un) := by rw [← hwx]; exact A0.out.q.cells.2.2.2
  clear hu hv hl hld hm h0 h1 hk hfb hylt hyy
  go_enter Tryd.func22, Tryd.ntmps22
  go_wp2_with fail
  rw [← hwx]
  clear hwx q0 q1 q2 q3
  refine (rmay_any f s c _ us wx (HUS.out.on A0.out.below) (by have := HL.out; omega)).mono ?_
  rintro e w1 ⟨rfl, hb⟩
  rw [HMM.out]
  have A1 := Lib.hid (A0.out.on hb)
  clear hb
  obtain ⟨c0, c1, c2, c3⟩ := A1.out.q.cells
  obtain ⟨yb, yo, ⟨yn, yc, hye⟩, hyc⟩ := HY0.out
  simp only [Value.slice.injEq] at hye
  obtain ⟨rfl, -, -⟩ := hye
  have x1 := (A1.out.below.cell (p := ⟨yb, yo, none⟩) (lt_cell hyc)).trans hyc
  have HYC := Lib.hid hyc
  clear hyc
  go_wp2_with fail
  go_quiet (fail)
  generalize hw9 : w1.drewN nq = w2
  have A2 : Hid (RD w w2 f s c (.slice ua us.length un)) := Lib.hid (by rw [← hw9]; exact A1.out.on (below_drewN (Below.refl _ _) nq))
  clear hw9 x1 c0 c1 c2 c3
  obtain ⟨c0, c1, c2, c3⟩ := A2.out.q.cells
  have x2 := (A2.out.below.cell (p := ⟨yb, yo, none⟩) (lt_cell HYC.out)).trans HYC.out
  go_wp2_with fail
  refine (HRN.out w2 (HV.out.on A2.out.below)).mono ?_
  rintro e w3 ⟨rfl, hb⟩
  have hnb := below_new w3 (.cells #[.int .i64 0, .slice none 0 0] 55)
  have A3 := Lib.hid ((A2.out.on hb).on hnb)
  have x3 := (A3.out.below.cell (p := ⟨yb, yo, none⟩) (lt_cell HYC.out)).trans HYC.out
  clear hb hnb x2 c0 c1 c2 c3
  go_wp2_with fail
  generalize w3.alloc (.cells #[.int .i64 0, .slice none 0 0] 55) = w4 at *
  refine (mk_rd (y : Int) 4 w _ A3.out).mono ?_
  rintro e wa ⟨g, rfl, HA⟩
  (try clear c0 c1 c2 c3)
  obtain ⟨b0, b1, z0, z1⟩ := HA.out.1.p.cells
  obtain ⟨k0, k1, z2, z3⟩ := HA.out.1.e.cells
  have HF := Lib.hid (rd_end (c' := 4) HA.out.1 HA.out.2.1 HA.out.2.2.1 HA.out.2.2.2)
  unfold fin2 at HF
  go_wp2
  generalize (World.setCell (World.setCell (World.setCell (World.setCell wa _ _) _ _) _ _) _ _) = W at HF ⊢
  obtain ⟨d0, d1, _, _⟩ := HF.out.1.1.cells
  obtain ⟨d2, d3, _, _⟩ := HF.out.1.2.cells
  refine bodyPost_ret (v := .tuple #[.agg #[.int .i64 0, .slice none 0 0], .agg #[.int .i64 4, .slice (some ⟨g, 0, none⟩) 1 1]]) ?_ rfl HF.out.2
  simp [results, Tryd.results22, go_sem, d0, d1, d2, d3]
end Go.Proofs.YtngfaailbkadfaaDoor
/- Both sides of Read in one form. -/
namespace Go.Proofs.YtngfaailbkadfaaDoor
open Go.RowKit Go.Extern.Stop Go.Stop Go.Extern

/-- The reply that is read. -/
def repR (r : Rq) (d : List UInt8) : Rp := if (r.may && readB r d) = true then parseR r d else ⟨0, []⟩
theorem readCode_ne (r : Rq) (d : List UInt8) : readCode r d ≠ 0 := by
  unfold readCode
  split
  · split
    · decide
    · split <;> decide
  · decide
theorem repR_len (r : Rq) (d : List UInt8) : (repR r d).vs.length ≤ 100000 := by
  unfold repR
  split
  · rename_i h
    rw [Bool.and_eq_true] at h
    have h3 := read_rp h.1 h.2
    rw [← h3.2.1]
    have := rpF_len r d h.1
    omega
  · simp
theorem read_pair (r : Rq) (v vb : Value) (d : List UInt8) (w : World) (hv : IntsAt w v r.vs) (hy : BytesAt w vb d) (hl : r.vs.length ≤ 3000) (hld : d.length ≤ 3000) : Calls Tryd.prog 21 #[r.val v, vb] w fun e w' => ∃ a n ev, e = .returned (.tuple #[(repR r d).val (.slice a (repR r d).vs.length n), ev]) ∧ IntsAt w' (.slice a (repR r d).vs.length n) (repR r d).vs ∧ EvIs (r.may && readB r d) (readPlace r d) (readCode r d) w' ev ∧ Below w.heap.size w w' := by
  unfold repR
  cases hm : (r.may && readB r d) with
  | true =>
    have hm2 := hm
    rw [Bool.and_eq_true] at hm2
    refine (read_yes r v vb d w hv hy (by omega) (by omega) hm2.1 hm2.2).mono ?_
    rintro e w' ⟨u, rfl, ho, hb⟩
    obtain ⟨a, n, rfl⟩ := row_slice ho
    exact ⟨a, n, _, rfl, intsAt_own ho, .inl ⟨rfl, rfl⟩, hb⟩
  | false =>
    refine (read_no r v vb d w hv hy (by omega) (by omega) hm).mono ?_
    rintro e w' ⟨u, rfl, hx, hb⟩
    exact ⟨none, 0, u, rfl, ints_empty _, .inr ⟨rfl, hx⟩, hb⟩
/-- What the document's Read answers. -/
def RRd (w : World) (ok : Bool) (x c : Int) (p : Rp) (e : Ending) (w' : World) : Prop := ∃ a n fc fa fn fm, e = .returned (.tuple #[.agg #[.int .i64 p.code, .slice a p.vs.length n], .agg #[.int .i64 fc, .slice fa fn fm]]) ∧ IntsAt w' (.slice a p.vs.length n) p.vs ∧ FvIs ok x c w' fc (.slice fa fn fm) ∧ Below w.heap.size w w'
theorem rrd_no {w : World} {x c : Int} {e : Ending} {w' : World} (h : RRdNo w x c e w') : RRd w false x c ⟨0, []⟩ e w' := by
  obtain ⟨g, rfl, hs, hb⟩ := h
  exact ⟨none, 0, _, _, _, _, rfl, ints_empty _, .inr ⟨rfl, rfl, hs⟩, hb⟩
theorem rrd_ok {w : World} {x c : Int} {p : Rp} {e : Ending} {w' : World} (h : RRdOk w p e w') : RRd w true x c p e w' := by
  obtain ⟨a, n, rfl, hi, hb⟩ := h
  exact ⟨a, n, 0, none, 0, 0, rfl, hi, .inl ⟨rfl, rfl, rfl⟩, hb⟩
theorem rread_pair (r : Rq) (ua : Option Addr) (un : Nat) (v : Value) (d : List UInt8) (w : World) (hu : IntsAt w (.slice ua r.vs.length un) r.vs) (hv : BytesAt w v d) (hl : r.vs.length ≤ 3000) (hld : d.length ≤ 3000) (hcap : ∀ ao n cap, v = .slice ao n cap → n ≤ cap) : Calls Tryd.prog 22 #[.agg #[.int .i64 r.f, .int .i64 r.s, .int .i64 r.c, .slice ua r.vs.length un], v] w (RRd w (r.may && readB r d) (readPlace r d) (readCode r d) (repR r d)) := by
  cases hm : r.may with
  | false =>
    have e1 : repR r d = ⟨0, []⟩ := by unfold repR; rw [hm, Bool.false_and, if_neg (by simp)]
    have e2 : readPlace r d = r.f := by unfold readPlace; rw [hm, if_neg (by simp)]
    have e3 : readCode r d = 1 := by unfold readCode; rw [hm, if_neg (by simp)]
    rw [Bool.false_and, e1, e2, e3]
    exact (rread_may r ua un v d w hu hv hl hld hm).mono fun _ _ h => rrd_no h
  | true =>
    have e1 : repR r d = if readB r d = true then parseR r d else ⟨0, []⟩ := by unfold repR; rw [hm, Bool.true_and]
    have e2 : readPlace r d = (rdN d 0 1).1 := by unfold readPlace; rw [if_pos hm]
    have e3 : readCode r d = (if d = [] then 2 else if (rdN d 0 1).1 = r.f ∨ (rdN d 0 1).1 = r.f + 128 then 4 else 6) := by unfold readCode; rw [if_pos hm]
    rw [Bool.true_and, e1, e2, e3]
    by_cases h0 : d = []
    · have hb : readB r d = false := by
        cases hb : readB r d with
        | false => rfl
        | true => obtain ⟨y, l, e, _⟩ := readB_first hm hb; rw [h0] at e; cases e
      rw [hb, if_pos h0, if_neg (show ¬ (false = true) by simp), h0, rdN_nil]
      subst h0
      exact (rread_nil r ua un v [] w hu hv hl hld hm rfl).mono fun _ _ h => rrd_no h
    · have hp : 0 < d.length := by
        cases d with
        | nil => exact absurd rfl h0
        | cons y l => simp
      rw [if_neg h0, ← fB_rd hp]
      cases hb : readB r d with
      | true =>
        rw [if_pos (show true = true by rfl)]
        obtain ⟨hk, he, ha⟩ := read_rp hm hb
        have he2 : (ansF r (rpF r d) == d) = true := by rw [ha]; simp
        obtain ⟨y, l, ey, hz⟩ := readB_first hm hb
        have hfy : fB d = (y.toNat : Int) := by rw [ey]; rfl
        rw [← hfy] at hz
        rw [← he]
        rcases hz with hz | hz
        · exact (rread_f3 r ua un v d w hu hv hl hld hm hp hz hcap hk he2).mono fun _ _ h => rrd_ok h
        · exact (rread_x3 r ua un v d w hu hv hl hld hm hp hz hcap hk he2).mono fun _ _ h => rrd_ok h
      | false =>
        rw [if_neg (show ¬ (false = true) by simp)]
        by_cases h1 : fB d = r.f
        · rw [if_pos (.inl h1)]
          by_cases hk : rpOk r d
          · have he : (ansF r (rpF r d) == d) = false := beq_eq_false_iff_ne.2 (read_rp_no hm hb hk)
            exact (rread_f2 r ua un v d w hu hv hl hld hm hp h1 hcap hk he).mono fun _ _ h => rrd_no h
          · exact (rread_f1 r ua un v d w hu hv hl hld hm hp h1 hk).mono fun _ _ h => rrd_no h
        · by_cases h2 : fB d = r.f + 128
          · rw [if_pos (.inr h2)]
            by_cases hk : rpOk r d
            · have he : (ansF r (rpF r d) == d) = false := beq_eq_false_iff_ne.2 (read_rp_no hm hb hk)
              exact (rread_x2 r ua un v d w hu hv hl hld hm hp h2 hcap hk he).mono fun _ _ h => rrd_no h
            · exact (rread_x1 r ua un v d w hu hv hl hld hm hp h2 hk).mono fun _ _ h => rrd_no h
          · rw [if_neg (fun h => h.elim h1 h2)]
            exact (rread_kind r ua un v d w hu hv hl hld hm hp h1 h2).mono fun _ _ h => rrd_no h
end Go.Proofs.YtngfaailbkadfaaDoor
