/- yardref7.reply: a reply out of bytes. -/
import Derived.Test.YtngfaailbkadfaaDoorS3
namespace Go.Proofs.YtngfaailbkadfaaDoor
open Go.RowKit Go.Extern.Stop Go.Stop Go.Extern

/-- reply's two boxes: the request, the result. -/
structure QP (w W : World) (f s c : Int) (u : Value) : Prop where
  q : BoxQ W w.heap.size f s c u
  p : BoxS W (w.heap.size + 1) 0 (.slice none 0 0)
  below : Below w.heap.size w W
theorem QP.on {w W W' : World} {f s c : Int} {u : Value} (h : QP w W f s c u) (hb : Below W.heap.size W W') : QP w W' f s c u := ⟨h.q.on hb, h.p.on hb, h.below.trans (hb.mono h.below.size)⟩
theorem qp_new (w : World) (f s c : Int) (u : Value) : QP w ((w.alloc (.cells #[.int .i64 f, .int .i64 s, .int .i64 c, u] 38)).alloc (.cells #[.int .i64 0, .slice none 0 0] 55)) f s c u := by
  have h := rb_new w f s c u 0 (.slice none 0 0)
  exact ⟨h.1, h.2.1, h.2.2⟩
theorem fin2_boxS {w4 : World} {k : Nat} {c0 : Int} {V0 : Value} (h : BoxS w4 k c0 V0) (c : Int) (V : Value) : BoxS (fin2 w4 k c V) k c V := by
  unfold BoxS fin2
  rw [heap_set _ _ _ _ _ _ _ (heap_set _ _ _ _ _ _ _ h)]
  rfl
def RplNo (w : World) (e : Ending) (w' : World) : Prop := e = .returned (.tuple #[.agg #[.int .i64 0, .slice none 0 0], .bool false]) ∧ Below w.heap.size w w'
def RplOk (w : World) (code : Int) (vs : List Int) (e : Ending) (w' : World) : Prop := ∃ a n, e = .returned (.tuple #[.agg #[.int .i64 code, .slice a vs.length n], .bool true]) ∧ IntsAt w' (.slice a vs.length n) vs ∧ (∀ q, a = some q → w.heap.size ≤ q.block) ∧ Below w.heap.size w w'
theorem drewS {w : World} (n : Nat) {W : World} {f s c : Int} {u : Value} (h : QP w W f s c u) : QP w (W.drewN n) f s c u := h.on (below_drewN (Below.refl _ _) n)

set_option maxRecDepth 100000 in
set_option maxHeartbeats 4000000 in
theorem rpl_len (f s c : Int) (u v : Value) (d : List UInt8) (w : World) (hv : BytesAt w v d) (hl : d.length ≤ 3000) (h0 : 0 < d.length) (hf : 1 ≤ f ∧ f ≤ 16) (he : ((d.getD 0 0).toNat : Int) = f + 128) (h2 : d.length ≠ 2) : Calls Tryd.prog 47 #[.agg #[.int .i64 f, .int .i64 s, .int .i64 c, u], v] w (RplNo w) := by
  obtain ⟨b, off, cap, rfl, p0⟩ := bytes_getD hv 0 h0
  obtain ⟨y, hy⟩ : ∃ y : Nat, (d.getD 0 0).toNat = y := ⟨_, rfl⟩
  have hylt := getD_lt d 0
  rw [hy] at p0 hylt
  obtain ⟨wx, hwx⟩ : ∃ wx, wx = (w.alloc (.cells #[.int .i64 f, .int .i64 s, .int .i64 c, u] 38)).alloc (.cells #[.int .i64 0, .slice none 0 0] 55) := ⟨_, rfl⟩
  have P0 : Hid (QP w wx f s c u) := Lib.hid (by rw [hwx]; exact qp_new _ _ _ _ _)
  have HV := Lib.hid hv
  have HP0 := Lib.hid p0
  have HL := Lib.hid (And.intro hl h0)
  have hw1 : IntKind.i64.wrap (f + 128) = f + 128 := by rw [IntKind.wrap_i64]; omega
  have hw2 : IntKind.i64.wrap (y : Int) = (y : Int) := by rw [IntKind.wrap_i64]; omega
  have hq : ((y : Int) == f + 128) = true := by rw [show (y : Int) = f + 128 by omega]; simp
  have hd0 : (0 : Int) < (d.length : Int) := by omega
  have hlen : ((d.length : Int) != 2) = true := bne_iff_ne.2 (by omega)
  have x0 := (P0.out.below.cell (p := ⟨b, off + 0, none⟩) (lt_cell p0)).trans p0
  simp only [Nat.add_zero] at x0
  obtain ⟨k0, _, _, _⟩ := P0.out.q.cells
  clear hv p0 hl h0 hf hy he h2
  go_enter Tryd.func47, Tryd.ntmps47
  go_wp2_with fail
  rw [← hwx]
  clear hwx
  go_quiet (fail)
  generalize hw9 : wx.drewN nq = w2
  have P2 : Hid (QP w w2 f s c u) := Lib.hid (by rw [← hw9]; exact drewS nq P0.out)
  clear hw9 x0 k0
  obtain ⟨k0, k1, k2, k3⟩ := P2.out.q.cells
  obtain ⟨r0, r1, g0, g1⟩ := P2.out.p.cells
  have HF : Hid (BoxS (fin2 w2 (w.heap.size + 1) 0 (.slice none 0 0)) (w.heap.size + 1) 0 (.slice none 0 0) ∧ RplNo w (.returned (.tuple #[.agg #[.int .i64 0, .slice none 0 0], .bool false])) (fin2 w2 (w.heap.size + 1) 0 (.slice none 0 0))) := Lib.hid ⟨fin2_boxS P2.out.p _ _, rfl, fin2_below P2.out.below _ (by omega) _ _⟩
  unfold fin2 at HF
  go_wp2
  generalize (World.setCell (World.setCell w2 _ _) _ _) = W at HF ⊢
  obtain ⟨d0, d1, _, _⟩ := HF.out.1.cells
  refine bodyPost_ret (v := .tuple #[.agg #[.int .i64 0, .slice none 0 0], .bool false]) ?_ rfl HF.out.2
  simp [results, Tryd.results47, go_sem, d0, d1]

set_option maxRecDepth 100000 in
set_option maxHeartbeats 4000000 in
theorem rpl_zero (f s c : Int) (u v : Value) (d : List UInt8) (w : World) (hv : BytesAt w v d) (hl : d.length ≤ 3000) (h0 : 0 < d.length) (hf : 1 ≤ f ∧ f ≤ 16) (he : ((d.getD 0 0).toNat : Int) = f + 128) (h2 : d.length = 2) (h3 : (d.getD 1 0).toNat = 0) : Calls Tryd.prog 47 #[.agg #[.int .i64 f, .int .i64 s, .int .i64 c, u], v] w (RplNo w) := by
  obtain ⟨b, off, cap, rfl, p0⟩ := bytes_getD hv 0 h0
  obtain ⟨y, hy⟩ : ∃ y : Nat, (d.getD 0 0).toNat = y := ⟨_, rfl⟩
  have hylt := getD_lt d 0
  rw [hy] at p0 hylt
  obtain ⟨wx, hwx⟩ : ∃ wx, wx = (w.alloc (.cells #[.int .i64 f, .int .i64 s, .int .i64 c, u] 38)).alloc (.cells #[.int .i64 0, .slice none 0 0] 55) := ⟨_, rfl⟩
  have P0 : Hid (QP w wx f s c u) := Lib.hid (by rw [hwx]; exact qp_new _ _ _ _ _)
  have HV := Lib.hid hv
  have HP0 := Lib.hid p0
  have HL := Lib.hid (And.intro hl h0)
  have hw1 : IntKind.i64.wrap (f + 128) = f + 128 := by rw [IntKind.wrap_i64]; omega
  have hw2 : IntKind.i64.wrap (y : Int) = (y : Int) := by rw [IntKind.wrap_i64]; omega
  have hq : ((y : Int) == f + 128) = true := by rw [show (y : Int) = f + 128 by omega]; simp
  have hd0 : (0 : Int) < (d.length : Int) := by omega
  obtain ⟨b', off', cap', e', p1⟩ := bytes_getD hv 1 (by omega)
  simp only [Value.slice.injEq, Option.some.injEq, Addr.mk.injEq, and_true, true_and] at e'
  obtain ⟨⟨rfl, rfl⟩, rfl⟩ := e'
  obtain ⟨z, hz⟩ : ∃ z : Nat, (d.getD 1 0).toNat = z := ⟨_, rfl⟩
  have hzlt := getD_lt d 1
  rw [hz] at p1 hzlt h3
  have HP1 := Lib.hid p1
  have hlen : ((d.length : Int) != 2) = false := by rw [h2]; rfl
  have hlen2 : (1 : Int) < (d.length : Int) := by omega
  have hw3 : IntKind.i64.wrap (z : Int) = (z : Int) := by rw [IntKind.wrap_i64]; omega
  have hz0 : ((z : Int) == 0) = true := by rw [h3]; rfl
  have HH2 := Lib.hid h2
  have x0 := (P0.out.below.cell (p := ⟨b, off + 0, none⟩) (lt_cell p0)).trans p0
  simp only [Nat.add_zero] at x0
  obtain ⟨k0, _, _, _⟩ := P0.out.q.cells
  clear hv p0 hl h0 hf hy he h2 p1 h3 hz
  go_enter Tryd.func47, Tryd.ntmps47
  go_wp2_with fail
  rw [← hwx]
  clear hwx
  go_quiet (fail)
  generalize hw9 : wx.drewN nq = w2
  have P2 : Hid (QP w w2 f s c u) := Lib.hid (by rw [← hw9]; exact drewS nq P0.out)
  clear hw9 x0 k0
  obtain ⟨k0, k1, k2, k3⟩ := P2.out.q.cells
  obtain ⟨r0, r1, g0, g1⟩ := P2.out.p.cells
  have x1 := (P2.out.below.cell (p := ⟨b, off + 1, none⟩) (lt_cell HP1.out)).trans HP1.out
  have HF : Hid (BoxS (fin2 w2 (w.heap.size + 1) 0 (.slice none 0 0)) (w.heap.size + 1) 0 (.slice none 0 0) ∧ RplNo w (.returned (.tuple #[.agg #[.int .i64 0, .slice none 0 0], .bool false])) (fin2 w2 (w.heap.size + 1) 0 (.slice none 0 0))) := Lib.hid ⟨fin2_boxS P2.out.p _ _, rfl, fin2_below P2.out.below _ (by omega) _ _⟩
  unfold fin2 at HF
  go_wp2
  generalize (World.setCell (World.setCell w2 _ _) _ _) = W at HF ⊢
  obtain ⟨d0, d1, _, _⟩ := HF.out.1.cells
  refine bodyPost_ret (v := .tuple #[.agg #[.int .i64 0, .slice none 0 0], .bool false]) ?_ rfl HF.out.2
  simp [results, Tryd.results47, go_sem, d0, d1]

set_option maxRecDepth 100000 in
set_option maxHeartbeats 4000000 in
theorem rpl_code (f s c : Int) (u v : Value) (d : List UInt8) (w : World) (hv : BytesAt w v d) (hl : d.length ≤ 3000) (h0 : 0 < d.length) (hf : 1 ≤ f ∧ f ≤ 16) (he : ((d.getD 0 0).toNat : Int) = f + 128) (h2 : d.length = 2) (h3 : (d.getD 1 0).toNat ≠ 0) : Calls Tryd.prog 47 #[.agg #[.int .i64 f, .int .i64 s, .int .i64 c, u], v] w (RplOk w ((d.getD 1 0).toNat : Int) []) := by
  obtain ⟨b, off, cap, rfl, p0⟩ := bytes_getD hv 0 h0
  obtain ⟨y, hy⟩ : ∃ y : Nat, (d.getD 0 0).toNat = y := ⟨_, rfl⟩
  have hylt := getD_lt d 0
  rw [hy] at p0 hylt
  obtain ⟨wx, hwx⟩ : ∃ wx, wx = (w.alloc (.cells #[.int .i64 f, .int .i64 s, .int .i64 c, u] 38)).alloc (.cells #[.int .i64 0, .slice none 0 0] 55) := ⟨_, rfl⟩
  have P0 : Hid (QP w wx f s c u) := Lib.hid (by rw [hwx]; exact qp_new _ _ _ _ _)
  have HV := Lib.hid hv
  have HP0 := Lib.hid p0
  have HL := Lib.hid (And.intro hl h0)
  have hw1 : IntKind.i64.wrap (f + 128) = f + 128 := by rw [IntKind.wrap_i64]; omega
  have hw2 : IntKind.i64.wrap (y : Int) = (y : Int) := by rw [IntKind.wrap_i64]; omega
  have hq : ((y : Int) == f + 128) = true := by rw [show (y : Int) = f + 128 by omega]; simp
  have hd0 : (0 : Int) < (d.length : Int) := by omega
  obtain ⟨b', off', cap', e', p1⟩ := bytes_getD hv 1 (by omega)
  simp only [Value.slice.injEq, Option.some.injEq, Addr.mk.injEq, and_true, true_and] at e'
  obtain ⟨⟨rfl, rfl⟩, rfl⟩ := e'
  obtain ⟨z, hz⟩ : ∃ z : Nat, (d.getD 1 0).toNat = z := ⟨_, rfl⟩
  have hzlt := getD_lt d 1
  rw [hz] at p1 hzlt h3
  have HP1 := Lib.hid p1
  have hlen : ((d.length : Int) != 2) = false := by rw [h2]; rfl
  have hlen2 : (1 : Int) < (d.length : Int) := by omega
  have hw3 : IntKind.i64.wrap (z : Int) = (z : Int) := by rw [IntKind.wrap_i64]; omega
  have hz0 : ((z : Int) == 0) = false := beq_eq_false_iff_ne.2 (by omega)
  rw [hz]
  have x0 := (P0.out.below.cell (p := ⟨b, off + 0, none⟩) (lt_cell p0)).trans p0
  simp only [Nat.add_zero] at x0
  obtain ⟨k0, _, _, _⟩ := P0.out.q.cells
  clear hv p0 hl h0 hf hy he h2 p1 h3 hz
  go_enter Tryd.func47, Tryd.ntmps47
  go_wp2_with fail
  rw [← hwx]
  clear hwx
  go_quiet (fail)
  generalize hw9 : wx.drewN nq = w2
  have P2 : Hid (QP w w2 f s c u) := Lib.hid (by rw [← hw9]; exact drewS nq P0.out)
  clear hw9 x0 k0
  obtain ⟨k0, k1, k2, k3⟩ := P2.out.q.cells
  obtain ⟨r0, r1, g0, g1⟩ := P2.out.p.cells
  have x1 := (P2.out.below.cell (p := ⟨b, off + 1, none⟩) (lt_cell HP1.out)).trans HP1.out
  have HF : Hid (BoxS (fin2 w2 (w.heap.size + 1) (z : Int) (.slice none 0 0)) (w.heap.size + 1) (z : Int) (.slice none 0 0) ∧ RplOk w (z : Int) [] (.returned (.tuple #[.agg #[.int .i64 (z : Int), .slice none 0 0], .bool true])) (fin2 w2 (w.heap.size + 1) (z : Int) (.slice none 0 0))) := Lib.hid ⟨fin2_boxS P2.out.p _ _, none, 0, rfl, ints_empty _, (fun q e => by cases e), fin2_below P2.out.below _ (by omega) _ _⟩
  unfold fin2 at HF
  go_wp2
  generalize (World.setCell (World.setCell w2 _ _) _ _) = W at HF ⊢
  obtain ⟨d0, d1, _, _⟩ := HF.out.1.cells
  refine bodyPost_ret (v := .tuple #[.agg #[.int .i64 (z : Int), .slice none 0 0], .bool true]) ?_ rfl HF.out.2
  simp [results, Tryd.results47, go_sem, d0, d1]

set_option maxRecDepth 100000 in
set_option maxHeartbeats 4000000 in
theorem rpl_1no (f s c : Int) (u v : Value) (d : List UInt8) (w : World) (hv : BytesAt w v d) (hl : d.length ≤ 3000) (h0 : 0 < d.length) (he : ((d.getD 0 0).toNat : Int) ≠ f + 128) (hc : 1 ≤ c ∧ c ≤ 2000) (hF : f = 1) (hn : (d.length : Int) - 2 ≠ (c + 7) / 8) : Calls Tryd.prog 47 #[.agg #[.int .i64 f, .int .i64 s, .int .i64 c, u], v] w (RplNo w) := by
  obtain ⟨b, off, cap, rfl, p0⟩ := bytes_getD hv 0 h0
  obtain ⟨y, hy⟩ : ∃ y : Nat, (d.getD 0 0).toNat = y := ⟨_, rfl⟩
  have hylt := getD_lt d 0
  rw [hy] at p0 hylt
  obtain ⟨wx, hwx⟩ : ∃ wx, wx = (w.alloc (.cells #[.int .i64 f, .int .i64 s, .int .i64 c, u] 38)).alloc (.cells #[.int .i64 0, .slice none 0 0] 55) := ⟨_, rfl⟩
  have P0 : Hid (QP w wx f s c u) := Lib.hid (by rw [hwx]; exact qp_new _ _ _ _ _)
  have HV := Lib.hid hv
  have HP0 := Lib.hid p0
  have HL := Lib.hid (And.intro hl h0)
  have hw1 : IntKind.i64.wrap (f + 128) = f + 128 := by rw [IntKind.wrap_i64]; omega
  have hw2 : IntKind.i64.wrap (y : Int) = (y : Int) := by rw [IntKind.wrap_i64]; omega
  have hq : ((y : Int) == f + 128) = false := by exact beq_eq_false_iff_ne.2 (by omega)
  have hd0 : (0 : Int) < (d.length : Int) := by omega
  have n1 : (f == 1) = true := beq_iff_eq.2 hF
  have hdl : IntKind.i64.wrap ((d.length : Int) - 2) = (d.length : Int) - 2 := by rw [IntKind.wrap_i64]; omega
  have hc7 : IntKind.i64.wrap (c + 7) = c + 7 := by rw [IntKind.wrap_i64]; omega
  have hnn : ((d.length : Int) - 2 != wrap64 ((c + 7).tdiv 8)) = true := by rw [show wrap64 ((c + 7).tdiv 8) = (c + 7) / 8 by (rw [Int.tdiv_eq_ediv_of_nonneg (by omega)]; unfold wrap64; omega)]; exact bne_iff_ne.2 hn
  have x0 := (P0.out.below.cell (p := ⟨b, off + 0, none⟩) (lt_cell p0)).trans p0
  simp only [Nat.add_zero] at x0
  obtain ⟨k0, _, _, _⟩ := P0.out.q.cells
  clear hv p0 hl h0 hy he hn hF hc
  go_enter Tryd.func47, Tryd.ntmps47
  go_wp2_with fail
  rw [← hwx]
  clear hwx
  go_quiet (fail)
  generalize hw9 : wx.drewN nq = w2
  have P2 : Hid (QP w w2 f s c u) := Lib.hid (by rw [← hw9]; exact drewS nq P0.out)
  clear hw9 x0 k0
  obtain ⟨k0, k1, k2, k3⟩ := P2.out.q.cells
  obtain ⟨r0, r1, g0, g1⟩ := P2.out.p.cells
  have HF : Hid (BoxS (fin2 w2 (w.heap.size + 1) 0 (.slice none 0 0)) (w.heap.size + 1) 0 (.slice none 0 0) ∧ RplNo w (.returned (.tuple #[.agg #[.int .i64 0, .slice none 0 0], .bool false])) (fin2 w2 (w.heap.size + 1) 0 (.slice none 0 0))) := Lib.hid ⟨fin2_boxS P2.out.p _ _, rfl, fin2_below P2.out.below _ (by omega) _ _⟩
  unfold fin2 at HF
  go_wp2
  generalize (World.setCell (World.setCell w2 _ _) _ _) = W at HF ⊢
  obtain ⟨d0, d1, _, _⟩ := HF.out.1.cells
  refine bodyPost_ret (v := .tuple #[.agg #[.int .i64 0, .slice none 0 0], .bool false]) ?_ rfl HF.out.2
  simp [results, Tryd.results47, go_sem, d0, d1]

set_option maxRecDepth 100000 in
set_option maxHeartbeats 4000000 in
theorem rpl_2no (f s c : Int) (u v : Value) (d : List UInt8) (w : World) (hv : BytesAt w v d) (hl : d.length ≤ 3000) (h0 : 0 < d.length) (he : ((d.getD 0 0).toNat : Int) ≠ f + 128) (hc : 1 ≤ c ∧ c ≤ 2000) (hF : f = 2) (hn : (d.length : Int) - 2 ≠ (c + 7) / 8) : Calls Tryd.prog 47 #[.agg #[.int .i64 f, .int .i64 s, .int .i64 c, u], v] w (RplNo w) := by
  obtain ⟨b, off, cap, rfl, p0⟩ := bytes_getD hv 0 h0
  obtain ⟨y, hy⟩ : ∃ y : Nat, (d.getD 0 0).toNat = y := ⟨_, rfl⟩
  have hylt := getD_lt d 0
  rw [hy] at p0 hylt
  obtain ⟨wx, hwx⟩ : ∃ wx, wx = (w.alloc (.cells #[.int .i64 f, .int .i64 s, .int .i64 c, u] 38)).alloc (.cells #[.int .i64 0, .slice none 0 0] 55) := ⟨_, rfl⟩
  have P0 : Hid (QP w wx f s c u) := Lib.hid (by rw [hwx]; exact qp_new _ _ _ _ _)
  have HV := Lib.hid hv
  have HP0 := Lib.hid p0
  have HL := Lib.hid (And.intro hl h0)
  have hw1 : IntKind.i64.wrap (f + 128) = f + 128 := by rw [IntKind.wrap_i64]; omega
  have hw2 : IntKind.i64.wrap (y : Int) = (y : Int) := by rw [IntKind.wrap_i64]; omega
  have hq : ((y : Int) == f + 128) = false := by exact beq_eq_false_iff_ne.2 (by omega)
  have hd0 : (0 : Int) < (d.length : Int) := by omega
  have n1 : (f == 1) = false := beq_eq_false_iff_ne.2 (by omega)
  have n2 : (f == 2) = true := beq_iff_eq.2 hF
  have hdl : IntKind.i64.wrap ((d.length : Int) - 2) = (d.length : Int) - 2 := by rw [IntKind.wrap_i64]; omega
  have hc7 : IntKind.i64.wrap (c + 7) = c + 7 := by rw [IntKind.wrap_i64]; omega
  have hnn : ((d.length : Int) - 2 != wrap64 ((c + 7).tdiv 8)) = true := by rw [show wrap64 ((c + 7).tdiv 8) = (c + 7) / 8 by (rw [Int.tdiv_eq_ediv_of_nonneg (by omega)]; unfold wrap64; omega)]; exact bne_iff_ne.2 hn
  have x0 := (P0.out.below.cell (p := ⟨b, off + 0, none⟩) (lt_cell p0)).trans p0
  simp only [Nat.add_zero] at x0
  obtain ⟨k0, _, _, _⟩ := P0.out.q.cells
  clear hv p0 hl h0 hy he hn hF hc
  go_enter Tryd.func47, Tryd.ntmps47
  go_wp2_with fail
  rw [← hwx]
  clear hwx
  go_quiet (fail)
  generalize hw9 : wx.drewN nq = w2
  have P2 : Hid (QP w w2 f s c u) := Lib.hid (by rw [← hw9]; exact drewS nq P0.out)
  clear hw9 x0 k0
  obtain ⟨k0, k1, k2, k3⟩ := P2.out.q.cells
  obtain ⟨r0, r1, g0, g1⟩ := P2.out.p.cells
  have HF : Hid (BoxS (fin2 w2 (w.heap.size + 1) 0 (.slice none 0 0)) (w.heap.size + 1) 0 (.slice none 0 0) ∧ RplNo w (.returned (.tuple #[.agg #[.int .i64 0, .slice none 0 0], .bool false])) (fin2 w2 (w.heap.size + 1) 0 (.slice none 0 0))) := Lib.hid ⟨fin2_boxS P2.out.p _ _, rfl, fin2_below P2.out.below _ (by omega) _ _⟩
  unfold fin2 at HF
  go_wp2
  generalize (World.setCell (World.setCell w2 _ _) _ _) = W at HF ⊢
  obtain ⟨d0, d1, _, _⟩ := HF.out.1.cells
  refine bodyPost_ret (v := .tuple #[.agg #[.int .i64 0, .slice none 0 0], .bool false]) ?_ rfl HF.out.2
  simp [results, Tryd.results47, go_sem, d0, d1]

set_option maxRecDepth 100000 in
set_option maxHeartbeats 4000000 in
theorem rpl_3no (f s c : Int) (u v : Value) (d : List UInt8) (w : World) (hv : BytesAt w v d) (hl : d.length ≤ 3000) (h0 : 0 < d.length) (he : ((d.getD 0 0).toNat : Int) ≠ f + 128) (hc : 1 ≤ c ∧ c ≤ 2000) (hF : f = 3) (hn : (d.length : Int) - 2 ≠ 2 * c) : Calls Tryd.prog 47 #[.agg #[.int .i64 f, .int .i64 s, .int .i64 c, u], v] w (RplNo w) := by
  obtain ⟨b, off, cap, rfl, p0⟩ := bytes_getD hv 0 h0
  obtain ⟨y, hy⟩ : ∃ y : Nat, (d.getD 0 0).toNat = y := ⟨_, rfl⟩
  have hylt := getD_lt d 0
  rw [hy] at p0 hylt
  obtain ⟨wx, hwx⟩ : ∃ wx, wx = (w.alloc (.cells #[.int .i64 f, .int .i64 s, .int .i64 c, u] 38)).alloc (.cells #[.int .i64 0, .slice none 0 0] 55) := ⟨_, rfl⟩
  have P0 : Hid (QP w wx f s c u) := Lib.hid (by rw [hwx]; exact qp_new _ _ _ _ _)
  have HV := Lib.hid hv
  have HP0 := Lib.hid p0
  have HL := Lib.hid (And.intro hl h0)
  have hw1 : IntKind.i64.wrap (f + 128) = f + 128 := by rw [IntKind.wrap_i64]; omega
  have hw2 : IntKind.i64.wrap (y : Int) = (y : Int) := by rw [IntKind.wrap_i64]; omega
  have hq : ((y : Int) == f + 128) = false := by exact beq_eq_false_iff_ne.2 (by omega)
  have hd0 : (0 : Int) < (d.length : Int) := by omega
  have n1 : (f == 1) = false := beq_eq_false_iff_ne.2 (by omega)
  have n2 : (f == 2) = false := beq_eq_false_iff_ne.2 (by omega)
  have n3 : (f == 3) = true := beq_iff_eq.2 hF
  have hdl : IntKind.i64.wrap ((d.length : Int) - 2) = (d.length : Int) - 2 := by rw [IntKind.wrap_i64]; omega
  have hc7 : IntKind.i64.wrap (2 * c) = 2 * c := by rw [IntKind.wrap_i64]; omega
  have hnn : ((d.length : Int) - 2 != 2 * c) = true := by rw [show (2 : Int) * c = 2 * c from rfl]; exact bne_iff_ne.2 hn
  have x0 := (P0.out.below.cell (p := ⟨b, off + 0, none⟩) (lt_cell p0)).trans p0
  simp only [Nat.add_zero] at x0
  obtain ⟨k0, _, _, _⟩ := P0.out.q.cells
  clear hv p0 hl h0 hy he hn hF hc
  go_enter Tryd.func47, Tryd.ntmps47
  go_wp2_with fail
  rw [← hwx]
  clear hwx
  go_quiet (fail)
  generalize hw9 : wx.drewN nq = w2
  have P2 : Hid (QP w w2 f s c u) := Lib.hid (by rw [← hw9]; exact drewS nq P0.out)
  clear hw9 x0 k0
  obtain ⟨k0, k1, k2, k3⟩ := P2.out.q.cells
  obtain ⟨r0, r1, g0, g1⟩ := P2.out.p.cells
  have HF : Hid (BoxS (fin2 w2 (w.heap.size + 1) 0 (.slice none 0 0)) (w.heap.size + 1) 0 (.slice none 0 0) ∧ RplNo w (.returned (.tuple #[.agg #[.int .i64 0, .slice none 0 0], .bool false])) (fin2 w2 (w.heap.size + 1) 0 (.slice none 0 0))) := Lib.hid ⟨fin2_boxS P2.out.p _ _, rfl, fin2_below P2.out.below _ (by omega) _ _⟩
  unfold fin2 at HF
  go_wp2
  generalize (World.setCell (World.setCell w2 _ _) _ _) = W at HF ⊢
  obtain ⟨d0, d1, _, _⟩ := HF.out.1.cells
  refine bodyPost_ret (v := .tuple #[.agg #[.int .i64 0, .slice none 0 0], .bool false]) ?_ rfl HF.out.2
  simp [results, Tryd.results47, go_sem, d0, d1]

set_option maxRecDepth 100000 in
set_option maxHeartbeats 4000000 in
theorem rpl_4no (f s c : Int) (u v : Value) (d : List UInt8) (w : World) (hv : BytesAt w v d) (hl : d.length ≤ 3000) (h0 : 0 < d.length) (he : ((d.getD 0 0).toNat : Int) ≠ f + 128) (hc : 1 ≤ c ∧ c ≤ 2000) (hF : f = 4) (hn : (d.length : Int) - 2 ≠ 2 * c) : Calls Tryd.prog 47 #[.agg #[.int .i64 f, .int .i64 s, .int .i64 c, u], v] w (RplNo w) := by
  obtain ⟨b, off, cap, rfl, p0⟩ := bytes_getD hv 0 h0
  obtain ⟨y, hy⟩ : ∃ y : Nat, (d.getD 0 0).toNat = y := ⟨_, rfl⟩
  have hylt := getD_lt d 0
  rw [hy] at p0 hylt
  obtain ⟨wx, hwx⟩ : ∃ wx, wx = (w.alloc (.cells #[.int .i64 f, .int .i64 s, .int .i64 c, u] 38)).alloc (.cells #[.int .i64 0, .slice none 0 0] 55) := ⟨_, rfl⟩
  have P0 : Hid (QP w wx f s c u) := Lib.hid (by rw [hwx]; exact qp_new _ _ _ _ _)
  have HV := Lib.hid hv
  have HP0 := Lib.hid p0
  have HL := Lib.hid (And.intro hl h0)
  have hw1 : IntKind.i64.wrap (f + 128) = f + 128 := by rw [IntKind.wrap_i64]; omega
  have hw2 : IntKind.i64.wrap (y : Int) = (y : Int) := by rw [IntKind.wrap_i64]; omega
  have hq : ((y : Int) == f + 128) = false := by exact beq_eq_false_iff_ne.2 (by omega)
  have hd0 : (0 : Int) < (d.length : Int) := by omega
  have n1 : (f == 1) = false := beq_eq_false_iff_ne.2 (by omega)
  have n2 : (f == 2) = false := beq_eq_false_iff_ne.2 (by omega)
  have n3 : (f == 3) = false := beq_eq_false_iff_ne.2 (by omega)
  have n4 : (f == 4) = true := beq_iff_eq.2 hF
  have hdl : IntKind.i64.wrap ((d.length : Int) - 2) = (d.length : Int) - 2 := by rw [IntKind.wrap_i64]; omega
  have hc7 : IntKind.i64.wrap (2 * c) = 2 * c := by rw [IntKind.wrap_i64]; omega
  have hnn : ((d.length : Int) - 2 != 2 * c) = true := by rw [show (2 : Int) * c = 2 * c from rfl]; exact bne_iff_ne.2 hn
  have x0 := (P0.out.below.cell (p := ⟨b, off + 0, none⟩) (lt_cell p0)).trans p0
  simp only [Nat.add_zero] at x0
  obtain ⟨k0, _, _, _⟩ := P0.out.q.cells
  clear hv p0 hl h0 hy he hn hF hc
  go_enter Tryd.func47, Tryd.ntmps47
  go_wp2_with fail
  rw [← hwx]
  clear hwx
  go_quiet (fail)
  generalize hw9 : wx.drewN nq = w2
  have P2 : Hid (QP w w2 f s c u) := Lib.hid (by rw [← hw9]; exact drewS nq P0.out)
  clear hw9 x0 k0
  obtain ⟨k0, k1, k2, k3⟩ := P2.out.q.cells
  obtain ⟨r0, r1, g0, g1⟩ := P2.out.p.cells
  have HF : Hid (BoxS (fin2 w2 (w.heap.size + 1) 0 (.slice none 0 0)) (w.heap.size + 1) 0 (.slice none 0 0) ∧ RplNo w (.returned (.tuple #[.agg #[.int .i64 0, .slice none 0 0], .bool false])) (fin2 w2 (w.heap.size + 1) 0 (.slice none 0 0))) := Lib.hid ⟨fin2_boxS P2.out.p _ _, rfl, fin2_below P2.out.below _ (by omega) _ _⟩
  unfold fin2 at HF
  go_wp2
  generalize (World.setCell (World.setCell w2 _ _) _ _) = W at HF ⊢
  obtain ⟨d0, d1, _, _⟩ := HF.out.1.cells
  refine bodyPost_ret (v := .tuple #[.agg #[.int .i64 0, .slice none 0 0], .bool false]) ?_ rfl HF.out.2
  simp [results, Tryd.results47, go_sem, d0, d1]

set_option maxRecDepth 100000 in
set_option maxHeartbeats 4000000 in
theorem rpl_else (f s c : Int) (u v : Value) (d : List UInt8) (w : World) (hv : BytesAt w v d) (hl : d.length ≤ 3000) (h0 : 0 < d.length) (hf : 1 ≤ f ∧ f ≤ 16) (he : ((d.getD 0 0).toNat : Int) ≠ f + 128) (hF : 4 < f) : Calls Tryd.prog 47 #[.agg #[.int .i64 f, .int .i64 s, .int .i64 c, u], v] w (RplOk w 0 []) := by
  obtain ⟨b, off, cap, rfl, p0⟩ := bytes_getD hv 0 h0
  obtain ⟨y, hy⟩ : ∃ y : Nat, (d.getD 0 0).toNat = y := ⟨_, rfl⟩
  have hylt := getD_lt d 0
  rw [hy] at p0 hylt
  obtain ⟨wx, hwx⟩ : ∃ wx, wx = (w.alloc (.cells #[.int .i64 f, .int .i64 s, .int .i64 c, u] 38)).alloc (.cells #[.int .i64 0, .slice none 0 0] 55) := ⟨_, rfl⟩
  have P0 : Hid (QP w wx f s c u) := Lib.hid (by rw [hwx]; exact qp_new _ _ _ _ _)
  have HV := Lib.hid hv
  have HP0 := Lib.hid p0
  have HL := Lib.hid (And.intro hl h0)
  have hw1 : IntKind.i64.wrap (f + 128) = f + 128 := by rw [IntKind.wrap_i64]; omega
  have hw2 : IntKind.i64.wrap (y : Int) = (y : Int) := by rw [IntKind.wrap_i64]; omega
  have hq : ((y : Int) == f + 128) = false := by exact beq_eq_false_iff_ne.2 (by omega)
  have hd0 : (0 : Int) < (d.length : Int) := by omega
  have n1 : (f == 1) = false := beq_eq_false_iff_ne.2 (by omega)
  have n2 : (f == 2) = false := beq_eq_false_iff_ne.2 (by omega)
  have n3 : (f == 3) = false := beq_eq_false_iff_ne.2 (by omega)
  have n4 : (f == 4) = false := beq_eq_false_iff_ne.2 (by omega)
  have x0 := (P0.out.below.cell (p := ⟨b, off + 0, none⟩) (lt_cell p0)).trans p0
  simp only [Nat.add_zero] at x0
  obtain ⟨k0, _, _, _⟩ := P0.out.q.cells
  clear hv p0 hl h0 hf hy he hF
  go_enter Tryd.func47, Tryd.ntmps47
  go_wp2_with fail
  rw [← hwx]
  clear hwx
  go_quiet (fail)
  generalize hw9 : wx.drewN nq = w2
  have P2 : Hid (QP w w2 f s c u) := Lib.hid (by rw [← hw9]; exact drewS nq P0.out)
  clear hw9 x0 k0
  obtain ⟨k0, k1, k2, k3⟩ := P2.out.q.cells
  obtain ⟨r0, r1, g0, g1⟩ := P2.out.p.cells
  have HF : Hid (BoxS (fin2 w2 (w.heap.size + 1) 0 (.slice none 0 0)) (w.heap.size + 1) 0 (.slice none 0 0) ∧ RplOk w 0 [] (.returned (.tuple #[.agg #[.int .i64 0, .slice none 0 0], .bool true])) (fin2 w2 (w.heap.size + 1) 0 (.slice none 0 0))) := Lib.hid ⟨fin2_boxS P2.out.p _ _, none, 0, rfl, ints_empty _, (fun q e => by cases e), fin2_below P2.out.below _ (by omega) _ _⟩
  unfold fin2 at HF
  go_wp2
  generalize (World.setCell (World.setCell w2 _ _) _ _) = W at HF ⊢
  obtain ⟨d0, d1, _, _⟩ := HF.out.1.cells
  refine bodyPost_ret (v := .tuple #[.agg #[.int .i64 0, .slice none 0 0], .bool true]) ?_ rfl HF.out.2
  simp [results, Tryd.results47, go_sem, d0, d1]

theorem rpl_fin {w W : World} {f s c : Int} {u : Value} {a : Option Addr} {n : Nat} {l : List Int} (h : QP w W f s c u) (ho : W.ownsRow w.heap.size 3 1 (.slice a l.length n) l.length (icells l)) : BoxS (fin2 W (w.heap.size + 1) 0 (.slice a l.length n)) (w.heap.size + 1) 0 (.slice a l.length n) ∧ RplOk w 0 l (.returned (.tuple #[.agg #[.int .i64 0, .slice a l.length n], .bool true])) (fin2 W (w.heap.size + 1) 0 (.slice a l.length n)) :=
  ⟨fin2_boxS h.p _ _, a, n, rfl, intsAt_own (ownsRow_off ho (fin2_off _ _ _ _) (fun j e1 e2 => row_no3 ho h.p (by decide) (by rw [← e2]; exact e1))), (fun q e => by
    subst e
    exact (ho.lt q.block rfl).1), fin2_below h.below _ (by omega) _ _⟩
theorem box_fin {w W : World} {f s c : Int} {u : Value} (h : QP w W f s c u) (x : Int) (V : Value) : BoxQ ((W.setCell ⟨w.heap.size + 1, 0, none⟩ (.int .i64 x)).setCell ⟨w.heap.size + 1, 1, none⟩ V) w.heap.size f s c u := ((fin2_off W (w.heap.size + 1) x V).block w.heap.size (lt_heap h.q) (by omega)).trans h.q
end Go.Proofs.YtngfaailbkadfaaDoor
/- yardref7.reply of function 4, values. -/
namespace Go.Proofs.YtngfaailbkadfaaDoor
open Go.RowKit Go.Extern.Stop Go.Stop Go.Extern

set_option maxRecDepth 100000 in
set_option maxHeartbeats 4000000 in
theorem rpl_4ok (f s c : Int) (u v : Value) (d : List UInt8) (w : World) (hv : BytesAt w v d) (hl : d.length ≤ 3000) (h0 : 0 < d.length) (he : ((d.getD 0 0).toNat : Int) ≠ f + 128) (hc : 1 ≤ c ∧ c ≤ 2000) (hF : f = 4) (hcap : ∀ ao n cap, v = .slice ao n cap → n ≤ cap) (hn : (d.length : Int) - 2 = 2 * c) : Calls Tryd.prog 47 #[.agg #[.int .i64 f, .int .i64 s, .int .i64 c, u], v] w (RplOk w 0 (rgF (d.drop 2) c)) := by
  obtain ⟨b, off, cap, rfl, p0⟩ := bytes_getD hv 0 h0
  obtain ⟨y, hy⟩ : ∃ y : Nat, (d.getD 0 0).toNat = y := ⟨_, rfl⟩
  have hylt := getD_lt d 0
  rw [hy] at p0 hylt
  obtain ⟨wx, hwx⟩ : ∃ wx, wx = (w.alloc (.cells #[.int .i64 f, .int .i64 s, .int .i64 c, u] 38)).alloc (.cells #[.int .i64 0, .slice none 0 0] 55) := ⟨_, rfl⟩
  have P0 : Hid (QP w wx f s c u) := Lib.hid (by rw [hwx]; exact qp_new _ _ _ _ _)
  have HV := Lib.hid hv
  have HP0 := Lib.hid p0
  have HL := Lib.hid (And.intro hl h0)
  have hw1 : IntKind.i64.wrap (f + 128) = f + 128 := by rw [IntKind.wrap_i64]; omega
  have hw2 : IntKind.i64.wrap (y : Int) = (y : Int) := by rw [IntKind.wrap_i64]; omega
  have hq : ((y : Int) == f + 128) = false := by exact beq_eq_false_iff_ne.2 (by omega)
  have hd0 : (0 : Int) < (d.length : Int) := by omega
  have n1 : (f == 1) = false := beq_eq_false_iff_ne.2 (by omega)
  have n2 : (f == 2) = false := beq_eq_false_iff_ne.2 (by omega)
  have n3 : (f == 3) = false := beq_eq_false_iff_ne.2 (by omega)
  have n4 : (f == 4) = true := beq_iff_eq.2 hF
  have hdl : IntKind.i64.wrap ((d.length : Int) - 2) = (d.length : Int) - 2 := by rw [IntKind.wrap_i64]; omega
  have hc7 : IntKind.i64.wrap (2 * c) = 2 * c := by rw [IntKind.wrap_i64]; omega
  have hnn : ((d.length : Int) - 2 != 2 * c) = false := by rw [show (2 : Int) * c = 2 * c from rfl, hn]; simp
  have hd2 : 2 < d.length := by omega
  obtain ⟨ws, hws⟩ : ∃ ws, ws = rgF (d.drop 2) c := ⟨_, rfl⟩
  have HU : Hid (∀ W, Below w.heap.size w W → ∀ cp : Nat, Calls Tryd.prog 60 #[.slice (some ⟨b, off + 2, none⟩) (d.length - 2) cp, .int .i64 c] W (RowI W ws)) := Lib.hid (fun W h cp => by
    rw [hws]
    exact unregs_any _ (d.drop 2) c W (bytes_drop (HV.out.on h) 2 cp) (by rw [List.length_drop]; omega) (by rw [List.length_drop]; omega))
  have hcp := hcap _ _ _ rfl
  have m1 : (2 : Int) ≤ (d.length : Int) := by omega
  have m3 : (2 : Int) < (d.length : Int) := by omega
  have m4 : (d.length : Int) ≤ 100000 := by omega
  have m5 : (2 : Int) ≤ (cap : Int) := by omega
  have m6 : (d.length : Int) ≤ (cap : Int) := by omega
  have m7 : ¬ cap = 2 := by omega
  have m8 : 2 < cap := by omega
  have m9 : 2 ≤ d.length := by omega
  rw [← hws]
  have x0 := (P0.out.below.cell (p := ⟨b, off + 0, none⟩) (lt_cell p0)).trans p0
  simp only [Nat.add_zero] at x0
  obtain ⟨k0, _, _, _⟩ := P0.out.q.cells
  clear hv p0 hl h0 hy he hn hF hc hcap hws
  go_enter Tryd.func47, Tryd.ntmps47
  go_wp2_with fail
  rw [← hwx]
  clear hwx
  go_quiet (fail)
  generalize hw9 : wx.drewN nq = w2
  have P2 : Hid (QP w w2 f s c u) := Lib.hid (by rw [← hw9]; exact drewS nq P0.out)
  clear hw9 x0 k0
  obtain ⟨k0, k1, k2, k3⟩ := P2.out.q.cells
  obtain ⟨r0, r1, g0, g1⟩ := P2.out.p.cells
  go_wp2_with fail
  refine wp_region_held_drew (S := fun w' => w'.cell? ⟨w.heap.size, 2, none⟩ = some (.int .i64 c)) (by kernel_rfl) k2 (fun hHeld => ?_)
  refine wpAnyH_take (i := 0) (oi := { dst := some 60, op := Op.move (Operand.tmp 1), type := 25, pos := "ref.go:230", after := #[], guard := none }) (v := ?_) rfl (by kernel_rfl) (by kernel_rfl) (by kernel_rfl) (fun _ _ _ h => h) (Or.inl ⟨by rfl, ?_⟩) hHeld ?_
  rotate_left
  · (intro W hSw; (try dsimp only at hSw); go_simp; try with_reducible rfl)
  (try simp only [Act.put, List.setIfInBounds_toArray, List.set_cons_zero, List.set_cons_succ])
  refine wpAnyH_take (i := 1) (oi := { dst := some 61, op := Op.slice 25 (Operand.tmp 60) (some (Operand.const (Value.int IntKind.i64 2))) none none, type := 25, pos := "ref.go:230", after := #[{ on := 0, ground := Ground.data }], guard := none }) (v := ?_) rfl (by kernel_rfl) (by kernel_rfl) (by kernel_rfl) (fun _ _ _ h => h) (Or.inl ⟨by rfl, ?_⟩) hHeld ?_
  rotate_left
  · (intro W hSw; (try dsimp only at hSw); go_simp; try with_reducible rfl)
  (try simp only [Act.put, List.setIfInBounds_toArray, List.set_cons_zero, List.set_cons_succ])
  refine wpAnyH_take (i := 2) (oi := { dst := some 62, op := Op.fieldAddr 38 (Operand.tmp 2) 2, type := 0, pos := "ref.go:230", after := #[], guard := none }) (v := ?_) rfl (by kernel_rfl) (by kernel_rfl) (by kernel_rfl) (fun _ _ _ h => h) (Or.inl ⟨by rfl, ?_⟩) hHeld ?_
  rotate_left
  · (intro W hSw; (try dsimp only at hSw); go_simp; try with_reducible rfl)
  (try simp only [Act.put, List.setIfInBounds_toArray, List.set_cons_zero, List.set_cons_succ])
  refine wpAnyH_take (i := 3) (oi := { dst := some 63, op := Op.load 3 (Operand.tmp 62), type := 3, pos := "ref.go:230", after := #[{ on := 2, ground := Ground.data }], guard := none }) (v := ?_) rfl (by kernel_rfl) (by kernel_rfl) (by kernel_rfl) (fun _ _ _ h => h) (Or.inl ⟨by rfl, ?_⟩) hHeld ?_
  rotate_left
  · (intro W hSw; (try dsimp only at hSw); go_simp; try with_reducible rfl)
  (try simp only [Act.put, List.setIfInBounds_toArray, List.set_cons_zero, List.set_cons_succ])
  refine wpAnyH_ready (rs := [4]) (by kernel_rfl) (by simp) ?_
  refine AllReadyH.cons (o := { dst := some 64, op := Op.call { callee := Callee.value (Operand.func 60), args := #[Operand.tmp 61, Operand.tmp 63], argTypes := #[25, 3] }, type := 22, pos := "ref.go:230", after := #[{ on := 1, ground := Ground.data }, { on := 3, ground := Ground.data }], guard := none }) rfl (fun K hK => ?_) AllReadyH.nil
  go_simp
  refine (HU.out w2.drew (P2.out.on (Below.refl _ w2).drew).below (cap - 2)).mono ?_; rintro e w3 ⟨uv, rfl, ho, hb⟩; clear k0 k1 k2 k3 r0 r1 g0 g1; have P3 := Lib.hid ((P2.out.on (Below.refl _ w2).drew).on hb); have O3 := Lib.hid (own_base3 ho (P2.out.on (Below.refl _ w2).drew).below.size); obtain ⟨oa, on_, rfl⟩ := row_slice ho; obtain ⟨r0, r1, g0, g1⟩ := P3.out.p.cells; obtain ⟨_, _, k2, _⟩ := P3.out.q.cells; have HF := Lib.hid (rpl_fin P3.out O3.out); unfold fin2 at HF; have J2 := (box_fin P3.out 0 (.slice oa ws.length on_)).cells.2.2.1; clear ho hb; simp only []
  refine hK.out _ _ k2 (fun hHeld => ?_)
  clear hK K
  (try simp only [Act.put, List.setIfInBounds_toArray, List.set_cons_zero, List.set_cons_succ])
  refine wpAnyH_take (i := 5) (oi := { dst := some 65, op := Op.build 55 #[(1, Operand.tmp 64)], type := 55, pos := "ref.go:230", after := #[{ on := 4, ground := Ground.data }], guard := none }) (v := ?_) rfl (by kernel_rfl) (by kernel_rfl) (by kernel_rfl) (fun _ _ _ h => h) (Or.inl ⟨by rfl, ?_⟩) hHeld ?_
  rotate_left
  · (intro W hSw; (try dsimp only at hSw); go_simp; try with_reducible rfl)
  (try simp only [Act.put, List.setIfInBounds_toArray, List.set_cons_zero, List.set_cons_succ])
  refine wpAnyH_ready (rs := [6]) (by kernel_rfl) (by simp) ?_
  refine AllReadyH.cons (o := { dst := none, op := Op.store 55 (Operand.tmp 4) (Operand.tmp 65), type := 0, pos := "ref.go:230", after := #[{ on := 5, ground := Ground.data }, { on := 4, ground := Ground.chain }, { on := 0, ground := Ground.phase }, { on := 1, ground := Ground.phase }, { on := 2, ground := Ground.phase }, { on := 3, ground := Ground.phase }, { on := 4, ground := Ground.phase }, { on := 5, ground := Ground.phase }], guard := none }) rfl (fun K hK => ?_) AllReadyH.nil
  go_simp
  refine hK.out _ _ J2 (fun hHeld => ?_)
  clear hK K
  (try simp only [Act.put, List.setIfInBounds_toArray, List.set_cons_zero, List.set_cons_succ])
  refine wpAnyH_take (i := 7) (oi := { dst := some 5, op := Op.assign (Operand.const (Value.bool true)), type := 4, pos := "ref.go:230", after := #[{ on := 6, ground := Ground.chain }, { on := 0, ground := Ground.phase }, { on := 1, ground := Ground.phase }, { on := 2, ground := Ground.phase }, { on := 3, ground := Ground.phase }, { on := 4, ground := Ground.phase }, { on := 5, ground := Ground.phase }, { on := 6, ground := Ground.phase }], guard := none }) (v := ?_) rfl (by kernel_rfl) (by kernel_rfl) (by kernel_rfl) (fun _ _ _ h => h) (Or.inl ⟨by rfl, ?_⟩) hHeld ?_
  rotate_left
  · (intro W hSw; (try dsimp only at hSw); go_simp; try with_reducible rfl)
  (try simp only [Act.put, List.setIfInBounds_toArray, List.set_cons_zero, List.set_cons_succ])
  refine wpAnyH_done (by kernel_rfl) ?_ _
  clear hHeld r0 r1 g0 g1 k2 J2
  generalize (World.setCell (World.setCell w3 _ _) _ _) = W at HF ⊢
  obtain ⟨d0, d1, _, _⟩ := HF.out.1.cells
  go_wp2
  refine bodyPost_ret (v := .tuple #[.agg #[.int .i64 0, .slice oa ws.length on_], .bool true]) ?_ rfl HF.out.2
  simp [results, Tryd.results47, go_sem, d0, d1]
end Go.Proofs.YtngfaailbkadfaaDoor
/- yardref7.reply of function 3, values. -/
namespace Go.Proofs.YtngfaailbkadfaaDoor
open Go.RowKit Go.Extern.Stop Go.Stop Go.Extern

set_option maxRecDepth 100000 in
set_option maxHeartbeats 4000000 in
theorem rpl_3ok (f s c : Int) (u v : Value) (d : List UInt8) (w : World) (hv : BytesAt w v d) (hl : d.length ≤ 3000) (h0 : 0 < d.length) (he : ((d.getD 0 0).toNat : Int) ≠ f + 128) (hc : 1 ≤ c ∧ c ≤ 2000) (hF : f = 3) (hcap : ∀ ao n cap, v = .slice ao n cap → n ≤ cap) (hn : (d.length : Int) - 2 = 2 * c) : Calls Tryd.prog 47 #[.agg #[.int .i64 f, .int .i64 s, .int .i64 c, u], v] w (RplOk w 0 (rgF (d.drop 2) c)) := by
  obtain ⟨b, off, cap, rfl, p0⟩ := bytes_getD hv 0 h0
  obtain ⟨y, hy⟩ : ∃ y : Nat, (d.getD 0 0).toNat = y := ⟨_, rfl⟩
  have hylt := getD_lt d 0
  rw [hy] at p0 hylt
  obtain ⟨wx, hwx⟩ : ∃ wx, wx = (w.alloc (.cells #[.int .i64 f, .int .i64 s, .int .i64 c, u] 38)).alloc (.cells #[.int .i64 0, .slice none 0 0] 55) := ⟨_, rfl⟩
  have P0 : Hid (QP w wx f s c u) := Lib.hid (by rw [hwx]; exact qp_new _ _ _ _ _)
  have HV := Lib.hid hv
  have HP0 := Lib.hid p0
  have HL := Lib.hid (And.intro hl h0)
  have hw1 : IntKind.i64.wrap (f + 128) = f + 128 := by rw [IntKind.wrap_i64]; omega
  have hw2 : IntKind.i64.wrap (y : Int) = (y : Int) := by rw [IntKind.wrap_i64]; omega
  have hq : ((y : Int) == f + 128) = false := by exact beq_eq_false_iff_ne.2 (by omega)
  have hd0 : (0 : Int) < (d.length : Int) := by omega
  have n1 : (f == 1) = false := beq_eq_false_iff_ne.2 (by omega)
  have n2 : (f == 2) = false := beq_eq_false_iff_ne.2 (by omega)
  have n3 : (f == 3) = true := beq_iff_eq.2 hF
  have hdl : IntKind.i64.wrap ((d.length : Int) - 2) = (d.length : Int) - 2 := by rw [IntKind.wrap_i64]; omega
  have hc7 : IntKind.i64.wrap (2 * c) = 2 * c := by rw [IntKind.wrap_i64]; omega
  have hnn : ((d.length : Int) - 2 != 2 * c) = false := by rw [show (2 : Int) * c = 2 * c from rfl, hn]; simp
  have hd2 : 2 < d.length := by omega
  obtain ⟨ws, hws⟩ : ∃ ws, ws = rgF (d.drop 2) c := ⟨_, rfl⟩
  have HU : Hid (∀ W, Below w.heap.size w W → ∀ cp : Nat, Calls Tryd.prog 60 #[.slice (some ⟨b, off + 2, none⟩) (d.length - 2) cp, .int .i64 c] W (RowI W ws)) := Lib.hid (fun W h cp => by
    rw [hws]
    exact unregs_any _ (d.drop 2) c W (bytes_drop (HV.out.on h) 2 cp) (by rw [List.length_drop]; omega) (by rw [List.length_drop]; omega))
  have hcp := hcap _ _ _ rfl
  have m1 : (2 : Int) ≤ (d.length : Int) := by omega
  have m3 : (2 : Int) < (d.length : Int) := by omega
  have m4 : (d.length : Int) ≤ 100000 := by omega
  have m5 : (2 : Int) ≤ (cap : Int) := by omega
  have m6 : (d.length : Int) ≤ (cap : Int) := by omega
  have m7 : ¬ cap = 2 := by omega
  have m8 : 2 < cap := by omega
  have m9 : 2 ≤ d.length := by omega
  rw [← hws]
  have x0 := (P0.out.below.cell (p := ⟨b, off + 0, none⟩) (lt_cell p0)).trans p0
  simp only [Nat.add_zero] at x0
  obtain ⟨k0, _, _, _⟩ := P0.out.q.cells
  clear hv p0 hl h0 hy he hn hF hc hcap hws
  go_enter Tryd.func47, Tryd.ntmps47
  go_wp2_with fail
  rw [← hwx]
  clear hwx
  go_quiet (fail)
  generalize hw9 : wx.drewN nq = w2
  have P2 : Hid (QP w w2 f s c u) := Lib.hid (by rw [← hw9]; exact drewS nq P0.out)
  clear hw9 x0 k0
  obtain ⟨k0, k1, k2, k3⟩ := P2.out.q.cells
  obtain ⟨r0, r1, g0, g1⟩ := P2.out.p.cells
  go_wp2_with fail
  refine wp_region_held_drew (S := fun w' => w'.cell? ⟨w.heap.size, 2, none⟩ = some (.int .i64 c)) (by kernel_rfl) k2 (fun hHeld => ?_)
  refine wpAnyH_take (i := 0) (oi := { dst := some 60, op := Op.move (Operand.tmp 1), type := 25, pos := "ref.go:230", after := #[], guard := none }) (v := ?_) rfl (by kernel_rfl) (by kernel_rfl) (by kernel_rfl) (fun _ _ _ h => h) (Or.inl ⟨by rfl, ?_⟩) hHeld ?_
  rotate_left
  · (intro W hSw; (try dsimp only at hSw); go_simp; try with_reducible rfl)
  (try simp only [Act.put, List.setIfInBounds_toArray, List.set_cons_zero, List.set_cons_succ])
  refine wpAnyH_take (i := 1) (oi := { dst := some 61, op := Op.slice 25 (Operand.tmp 60) (some (Operand.const (Value.int IntKind.i64 2))) none none, type := 25, pos := "ref.go:230", after := #[{ on := 0, ground := Ground.data }], guard := none }) (v := ?_) rfl (by kernel_rfl) (by kernel_rfl) (by kernel_rfl) (fun _ _ _ h => h) (Or.inl ⟨by rfl, ?_⟩) hHeld ?_
  rotate_left
  · (intro W hSw; (try dsimp only at hSw); go_simp; try with_reducible rfl)
  (try simp only [Act.put, List.setIfInBounds_toArray, List.set_cons_zero, List.set_cons_succ])
  refine wpAnyH_take (i := 2) (oi := { dst := some 62, op := Op.fieldAddr 38 (Operand.tmp 2) 2, type := 0, pos := "ref.go:230", after := #[], guard := none }) (v := ?_) rfl (by kernel_rfl) (by kernel_rfl) (by kernel_rfl) (fun _ _ _ h => h) (Or.inl ⟨by rfl, ?_⟩) hHeld ?_
  rotate_left
  · (intro W hSw; (try dsimp only at hSw); go_simp; try with_reducible rfl)
  (try simp only [Act.put, List.setIfInBounds_toArray, List.set_cons_zero, List.set_cons_succ])
  refine wpAnyH_take (i := 3) (oi := { dst := some 63, op := Op.load 3 (Operand.tmp 62), type := 3, pos := "ref.go:230", after := #[{ on := 2, ground := Ground.data }], guard := none }) (v := ?_) rfl (by kernel_rfl) (by kernel_rfl) (by kernel_rfl) (fun _ _ _ h => h) (Or.inl ⟨by rfl, ?_⟩) hHeld ?_
  rotate_left
  · (intro W hSw; (try dsimp only at hSw); go_simp; try with_reducible rfl)
  (try simp only [Act.put, List.setIfInBounds_toArray, List.set_cons_zero, List.set_cons_succ])
  refine wpAnyH_ready (rs := [4]) (by kernel_rfl) (by simp) ?_
  refine AllReadyH.cons (o := { dst := some 64, op := Op.call { callee := Callee.value (Operand.func 60), args := #[Operand.tmp 61, Operand.tmp 63], argTypes := #[25, 3] }, type := 22, pos := "ref.go:230", after := #[{ on := 1, ground := Ground.data }, { on := 3, ground := Ground.data }], guard := none }) rfl (fun K hK => ?_) AllReadyH.nil
  go_simp
  refine (HU.out w2.drew (P2.out.on (Below.refl _ w2).drew).below (cap - 2)).mono ?_; rintro e w3 ⟨uv, rfl, ho, hb⟩; clear k0 k1 k2 k3 r0 r1 g0 g1; have P3 := Lib.hid ((P2.out.on (Below.refl _ w2).drew).on hb); have O3 := Lib.hid (own_base3 ho (P2.out.on (Below.refl _ w2).drew).below.size); obtain ⟨oa, on_, rfl⟩ := row_slice ho; obtain ⟨r0, r1, g0, g1⟩ := P3.out.p.cells; obtain ⟨_, _, k2, _⟩ := P3.out.q.cells; have HF := Lib.hid (rpl_fin P3.out O3.out); unfold fin2 at HF; have J2 := (box_fin P3.out 0 (.slice oa ws.length on_)).cells.2.2.1; clear ho hb; simp only []
  refine hK.out _ _ k2 (fun hHeld => ?_)
  clear hK K
  (try simp only [Act.put, List.setIfInBounds_toArray, List.set_cons_zero, List.set_cons_succ])
  refine wpAnyH_take (i := 5) (oi := { dst := some 65, op := Op.build 55 #[(1, Operand.tmp 64)], type := 55, pos := "ref.go:230", after := #[{ on := 4, ground := Ground.data }], guard := none }) (v := ?_) rfl (by kernel_rfl) (by kernel_rfl) (by kernel_rfl) (fun _ _ _ h => h) (Or.inl ⟨by rfl, ?_⟩) hHeld ?_
  rotate_left
  · (intro W hSw; (try dsimp only at hSw); go_simp; try with_reducible rfl)
  (try simp only [Act.put, List.setIfInBounds_toArray, List.set_cons_zero, List.set_cons_succ])
  refine wpAnyH_ready (rs := [6]) (by kernel_rfl) (by simp) ?_
  refine AllReadyH.cons (o := { dst := none, op := Op.store 55 (Operand.tmp 4) (Operand.tmp 65), type := 0, pos := "ref.go:230", after := #[{ on := 5, ground := Ground.data }, { on := 4, ground := Ground.chain }, { on := 0, ground := Ground.phase }, { on := 1, ground := Ground.phase }, { on := 2, ground := Ground.phase }, { on := 3, ground := Ground.phase }, { on := 4, ground := Ground.phase }, { on := 5, ground := Ground.phase }], guard := none }) rfl (fun K hK => ?_) AllReadyH.nil
  go_simp
  refine hK.out _ _ J2 (fun hHeld => ?_)
  clear hK K
  (try simp only [Act.put, List.setIfInBounds_toArray, List.set_cons_zero, List.set_cons_succ])
  refine wpAnyH_take (i := 7) (oi := { dst := some 5, op := Op.assign (Operand.const (Value.bool true)), type := 4, pos := "ref.go:230", after := #[{ on := 6, ground := Ground.chain }, { on := 0, ground := Ground.phase }, { on := 1, ground := Ground.phase }, { on := 2, ground := Ground.phase }, { on := 3, ground := Ground.phase }, { on := 4, ground := Ground.phase }, { on := 5, ground := Ground.phase }, { on := 6, ground := Ground.phase }], guard := none }) (v := ?_) rfl (by kernel_rfl) (by kernel_rfl) (by kernel_rfl) (fun _ _ _ h => h) (Or.inl ⟨by rfl, ?_⟩) hHeld ?_
  rotate_left
  · (intro W hSw; (try dsimp only at hSw); go_simp; try with_reducible rfl)
  (try simp only [Act.put, List.setIfInBounds_toArray, List.set_cons_zero, List.set_cons_succ])
  refine wpAnyH_done (by kernel_rfl) ?_ _
  clear hHeld r0 r1 g0 g1 k2 J2
  generalize (World.setCell (World.setCell w3 _ _) _ _) = W at HF ⊢
  obtain ⟨d0, d1, _, _⟩ := HF.out.1.cells
  go_wp2
  refine bodyPost_ret (v := .tuple #[.agg #[.int .i64 0, .slice oa ws.length on_], .bool true]) ?_ rfl HF.out.2
  simp [results, Tryd.results47, go_sem, d0, d1]
end Go.Proofs.YtngfaailbkadfaaDoor
/- yardref7.reply of function 2, values. -/
namespace Go.Proofs.YtngfaailbkadfaaDoor
open Go.RowKit Go.Extern.Stop Go.Stop Go.Extern

set_option maxRecDepth 100000 in
set_option maxHeartbeats 4000000 in
theorem rpl_2ok (f s c : Int) (u v : Value) (d : List UInt8) (w : World) (hv : BytesAt w v d) (hl : d.length ≤ 3000) (h0 : 0 < d.length) (he : ((d.getD 0 0).toNat : Int) ≠ f + 128) (hc : 1 ≤ c ∧ c ≤ 2000) (hF : f = 2) (hcap : ∀ ao n cap, v = .slice ao n cap → n ≤ cap) (hn : (d.length : Int) - 2 = (c + 7) / 8) : Calls Tryd.prog 47 #[.agg #[.int .i64 f, .int .i64 s, .int .i64 c, u], v] w (RplOk w 0 (unF (d.drop 2) c)) := by
  obtain ⟨b, off, cap, rfl, p0⟩ := bytes_getD hv 0 h0
  obtain ⟨y, hy⟩ : ∃ y : Nat, (d.getD 0 0).toNat = y := ⟨_, rfl⟩
  have hylt := getD_lt d 0
  rw [hy] at p0 hylt
  obtain ⟨wx, hwx⟩ : ∃ wx, wx = (w.alloc (.cells #[.int .i64 f, .int .i64 s, .int .i64 c, u] 38)).alloc (.cells #[.int .i64 0, .slice none 0 0] 55) := ⟨_, rfl⟩
  have P0 : Hid (QP w wx f s c u) := Lib.hid (by rw [hwx]; exact qp_new _ _ _ _ _)
  have HV := Lib.hid hv
  have HP0 := Lib.hid p0
  have HL := Lib.hid (And.intro hl h0)
  have hw1 : IntKind.i64.wrap (f + 128) = f + 128 := by rw [IntKind.wrap_i64]; omega
  have hw2 : IntKind.i64.wrap (y : Int) = (y : Int) := by rw [IntKind.wrap_i64]; omega
  have hq : ((y : Int) == f + 128) = false := by exact beq_eq_false_iff_ne.2 (by omega)
  have hd0 : (0 : Int) < (d.length : Int) := by omega
  have n1 : (f == 1) = false := beq_eq_false_iff_ne.2 (by omega)
  have n2 : (f == 2) = true := beq_iff_eq.2 hF
  have hdl : IntKind.i64.wrap ((d.length : Int) - 2) = (d.length : Int) - 2 := by rw [IntKind.wrap_i64]; omega
  have hc7 : IntKind.i64.wrap (c + 7) = c + 7 := by rw [IntKind.wrap_i64]; omega
  have hnn : ((d.length : Int) - 2 != wrap64 ((c + 7).tdiv 8)) = false := by rw [show wrap64 ((c + 7).tdiv 8) = (c + 7) / 8 by (rw [Int.tdiv_eq_ediv_of_nonneg (by omega)]; unfold wrap64; omega), hn]; simp
  have hd2 : 2 < d.length := by omega
  obtain ⟨ws, hws⟩ : ∃ ws, ws = unF (d.drop 2) c := ⟨_, rfl⟩
  have HU : Hid (∀ W, Below w.heap.size w W → ∀ cp : Nat, Calls Tryd.prog 59 #[.slice (some ⟨b, off + 2, none⟩) (d.length - 2) cp, .int .i64 c] W (RowI W ws)) := Lib.hid (fun W h cp => by
    rw [hws]
    exact unbits_any _ (d.drop 2) c W (bytes_drop (HV.out.on h) 2 cp) (by rw [List.length_drop]; omega) (by rw [List.length_drop]; omega))
  have hcp := hcap _ _ _ rfl
  have m1 : (2 : Int) ≤ (d.length : Int) := by omega
  have m3 : (2 : Int) < (d.length : Int) := by omega
  have m4 : (d.length : Int) ≤ 100000 := by omega
  have m5 : (2 : Int) ≤ (cap : Int) := by omega
  have m6 : (d.length : Int) ≤ (cap : Int) := by omega
  have m7 : ¬ cap = 2 := by omega
  have m8 : 2 < cap := by omega
  have m9 : 2 ≤ d.length := by omega
  rw [← hws]
  have x0 := (P0.out.below.cell (p := ⟨b, off + 0, none⟩) (lt_cell p0)).trans p0
  simp only [Nat.add_zero] at x0
  obtain ⟨k0, _, _, _⟩ := P0.out.q.cells
  clear hv p0 hl h0 hy he hn hF hc hcap hws
  go_enter Tryd.func47, Tryd.ntmps47
  go_wp2_with fail
  rw [← hwx]
  clear hwx
  go_quiet (fail)
  generalize hw9 : wx.drewN nq = w2
  have P2 : Hid (QP w w2 f s c u) := Lib.hid (by rw [← hw9]; exact drewS nq P0.out)
  clear hw9 x0 k0
  obtain ⟨k0, k1, k2, k3⟩ := P2.out.q.cells
  obtain ⟨r0, r1, g0, g1⟩ := P2.out.p.cells
  go_wp2_with fail
  refine wp_region_held_drew (S := fun w' => w'.cell? ⟨w.heap.size, 2, none⟩ = some (.int .i64 c)) (by kernel_rfl) k2 (fun hHeld => ?_)
  refine wpAnyH_take (i := 0) (oi := { dst := some 43, op := Op.move (Operand.tmp 1), type := 25, pos := "ref.go:225", after := #[], guard := none }) (v := ?_) rfl (by kernel_rfl) (by kernel_rfl) (by kernel_rfl) (fun _ _ _ h => h) (Or.inl ⟨by rfl, ?_⟩) hHeld ?_
  rotate_left
  · (intro W hSw; (try dsimp only at hSw); go_simp; try with_reducible rfl)
  (try simp only [Act.put, List.setIfInBounds_toArray, List.set_cons_zero, List.set_cons_succ])
  refine wpAnyH_take (i := 1) (oi := { dst := some 44, op := Op.slice 25 (Operand.tmp 43) (some (Operand.const (Value.int IntKind.i64 2))) none none, type := 25, pos := "ref.go:225", after := #[{ on := 0, ground := Ground.data }], guard := none }) (v := ?_) rfl (by kernel_rfl) (by kernel_rfl) (by kernel_rfl) (fun _ _ _ h => h) (Or.inl ⟨by rfl, ?_⟩) hHeld ?_
  rotate_left
  · (intro W hSw; (try dsimp only at hSw); go_simp; try with_reducible rfl)
  (try simp only [Act.put, List.setIfInBounds_toArray, List.set_cons_zero, List.set_cons_succ])
  refine wpAnyH_take (i := 2) (oi := { dst := some 45, op := Op.fieldAddr 38 (Operand.tmp 2) 2, type := 0, pos := "ref.go:225", after := #[], guard := none }) (v := ?_) rfl (by kernel_rfl) (by kernel_rfl) (by kernel_rfl) (fun _ _ _ h => h) (Or.inl ⟨by rfl, ?_⟩) hHeld ?_
  rotate_left
  · (intro W hSw; (try dsimp only at hSw); go_simp; try with_reducible rfl)
  (try simp only [Act.put, List.setIfInBounds_toArray, List.set_cons_zero, List.set_cons_succ])
  refine wpAnyH_take (i := 3) (oi := { dst := some 46, op := Op.load 3 (Operand.tmp 45), type := 3, pos := "ref.go:225", after := #[{ on := 2, ground := Ground.data }], guard := none }) (v := ?_) rfl (by kernel_rfl) (by kernel_rfl) (by kernel_rfl) (fun _ _ _ h => h) (Or.inl ⟨by rfl, ?_⟩) hHeld ?_
  rotate_left
  · (intro W hSw; (try dsimp only at hSw); go_simp; try with_reducible rfl)
  (try simp only [Act.put, List.setIfInBounds_toArray, List.set_cons_zero, List.set_cons_succ])
  refine wpAnyH_ready (rs := [4]) (by kernel_rfl) (by simp) ?_
  refine AllReadyH.cons (o := { dst := some 47, op := Op.call { callee := Callee.value (Operand.func 59), args := #[Operand.tmp 44, Operand.tmp 46], argTypes := #[25, 3] }, type := 22, pos := "ref.go:225", after := #[{ on := 1, ground := Ground.data }, { on := 3, ground := Ground.data }], guard := none }) rfl (fun K hK => ?_) AllReadyH.nil
  go_simp
  refine (HU.out w2.drew (P2.out.on (Below.refl _ w2).drew).below (cap - 2)).mono ?_; rintro e w3 ⟨uv, rfl, ho, hb⟩; clear k0 k1 k2 k3 r0 r1 g0 g1; have P3 := Lib.hid ((P2.out.on (Below.refl _ w2).drew).on hb); have O3 := Lib.hid (own_base3 ho (P2.out.on (Below.refl _ w2).drew).below.size); obtain ⟨oa, on_, rfl⟩ := row_slice ho; obtain ⟨r0, r1, g0, g1⟩ := P3.out.p.cells; obtain ⟨_, _, k2, _⟩ := P3.out.q.cells; have HF := Lib.hid (rpl_fin P3.out O3.out); unfold fin2 at HF; have J2 := (box_fin P3.out 0 (.slice oa ws.length on_)).cells.2.2.1; clear ho hb; simp only []
  refine hK.out _ _ k2 (fun hHeld => ?_)
  clear hK K
  (try simp only [Act.put, List.setIfInBounds_toArray, List.set_cons_zero, List.set_cons_succ])
  refine wpAnyH_take (i := 5) (oi := { dst := some 48, op := Op.build 55 #[(1, Operand.tmp 47)], type := 55, pos := "ref.go:225", after := #[{ on := 4, ground := Ground.data }], guard := none }) (v := ?_) rfl (by kernel_rfl) (by kernel_rfl) (by kernel_rfl) (fun _ _ _ h => h) (Or.inl ⟨by rfl, ?_⟩) hHeld ?_
  rotate_left
  · (intro W hSw; (try dsimp only at hSw); go_simp; try with_reducible rfl)
  (try simp only [Act.put, List.setIfInBounds_toArray, List.set_cons_zero, List.set_cons_succ])
  refine wpAnyH_ready (rs := [6]) (by kernel_rfl) (by simp) ?_
  refine AllReadyH.cons (o := { dst := none, op := Op.store 55 (Operand.tmp 4) (Operand.tmp 48), type := 0, pos := "ref.go:225", after := #[{ on := 5, ground := Ground.data }, { on := 4, ground := Ground.chain }, { on := 0, ground := Ground.phase }, { on := 1, ground := Ground.phase }, { on := 2, ground := Ground.phase }, { on := 3, ground := Ground.phase }, { on := 4, ground := Ground.phase }, { on := 5, ground := Ground.phase }], guard := none }) rfl (fun K hK => ?_) AllReadyH.nil
  go_simp
  refine hK.out _ _ J2 (fun hHeld => ?_)
  clear hK K
  (try simp only [Act.put, List.setIfInBounds_toArray, List.set_cons_zero, List.set_cons_succ])
  refine wpAnyH_take (i := 7) (oi := { dst := some 5, op := Op.assign (Operand.const (Value.bool true)), type := 4, pos := "ref.go:225", after := #[{ on := 6, ground := Ground.chain }, { on := 0, ground := Ground.phase }, { on := 1, ground := Ground.phase }, { on := 2, ground := Ground.phase }, { on := 3, ground := Ground.phase }, { on := 4, ground := Ground.phase }, { on := 5, ground := Ground.phase }, { on := 6, ground := Ground.phase }], guard := none }) (v := ?_) rfl (by kernel_rfl) (by kernel_rfl) (by kernel_rfl) (fun _ _ _ h => h) (Or.inl ⟨by rfl, ?_⟩) hHeld ?_
  rotate_left
  · (intro W hSw; (try dsimp only at hSw); go_simp; try with_reducible rfl)
  (try simp only [Act.put, List.setIfInBounds_toArray, List.set_cons_zero, List.set_cons_succ])
  refine wpAnyH_done (by kernel_rfl) ?_ _
  clear hHeld r0 r1 g0 g1 k2 J2
  generalize (World.setCell (World.setCell w3 _ _) _ _) = W at HF ⊢
  obtain ⟨d0, d1, _, _⟩ := HF.out.1.cells
  go_wp2
  refine bodyPost_ret (v := .tuple #[.agg #[.int .i64 0, .slice oa ws.length on_], .bool true]) ?_ rfl HF.out.2
  simp [results, Tryd.results47, go_sem, d0, d1]
end Go.Proofs.YtngfaailbkadfaaDoor
/- yardref7.reply of function 1, values. -/
namespace Go.Proofs.YtngfaailbkadfaaDoor
open Go.RowKit Go.Extern.Stop Go.Stop Go.Extern

set_option maxRecDepth 100000 in
set_option maxHeartbeats 4000000 in
theorem rpl_1ok (f s c : Int) (u v : Value) (d : List UInt8) (w : World) (hv : BytesAt w v d) (hl : d.length ≤ 3000) (h0 : 0 < d.length) (he : ((d.getD 0 0).toNat : Int) ≠ f + 128) (hc : 1 ≤ c ∧ c ≤ 2000) (hF : f = 1) (hcap : ∀ ao n cap, v = .slice ao n cap → n ≤ cap) (hn : (d.length : Int) - 2 = (c + 7) / 8) : Calls Tryd.prog 47 #[.agg #[.int .i64 f, .int .i64 s, .int .i64 c, u], v] w (RplOk w 0 (unF (d.drop 2) c)) := by
  obtain ⟨b, off, cap, rfl, p0⟩ := bytes_getD hv 0 h0
  obtain ⟨y, hy⟩ : ∃ y : Nat, (d.getD 0 0).toNat = y := ⟨_, rfl⟩
  have hylt := getD_lt d 0
  rw [hy] at p0 hylt
  obtain ⟨wx, hwx⟩ : ∃ wx, wx = (w.alloc (.cells #[.int .i64 f, .int .i64 s, .int .i64 c, u] 38)).alloc (.cells #[.int .i64 0, .slice none 0 0] 55) := ⟨_, rfl⟩
  have P0 : Hid (QP w wx f s c u) := Lib.hid (by rw [hwx]; exact qp_new _ _ _ _ _)
  have HV := Lib.hid hv
  have HP0 := Lib.hid p0
  have HL := Lib.hid (And.intro hl h0)
  have hw1 : IntKind.i64.wrap (f + 128) = f + 128 := by rw [IntKind.wrap_i64]; omega
  have hw2 : IntKind.i64.wrap (y : Int) = (y : Int) := by rw [IntKind.wrap_i64]; omega
  have hq : ((y : Int) == f + 128) = false := by exact beq_eq_false_iff_ne.2 (by omega)
  have hd0 : (0 : Int) < (d.length : Int) := by omega
  have n1 : (f == 1) = true := beq_iff_eq.2 hF
  have hdl : IntKind.i64.wrap ((d.length : Int) - 2) = (d.length : Int) - 2 := by rw [IntKind.wrap_i64]; omega
  have hc7 : IntKind.i64.wrap (c + 7) = c + 7 := by rw [IntKind.wrap_i64]; omega
  have hnn : ((d.length : Int) - 2 != wrap64 ((c + 7).tdiv 8)) = false := by rw [show wrap64 ((c + 7).tdiv 8) = (c + 7) / 8 by (rw [Int.tdiv_eq_ediv_of_nonneg (by omega)]; unfold wrap64; omega), hn]; simp
  have hd2 : 2 < d.length := by omega
  obtain ⟨ws, hws⟩ : ∃ ws, ws = unF (d.drop 2) c := ⟨_, rfl⟩
  have HU : Hid (∀ W, Below w.heap.size w W → ∀ cp : Nat, Calls Tryd.prog 59 #[.slice (some ⟨b, off + 2, none⟩) (d.length - 2) cp, .int .i64 c] W (RowI W ws)) := Lib.hid (fun W h cp => by
    rw [hws]
    exact unbits_any _ (d.drop 2) c W (bytes_drop (HV.out.on h) 2 cp) (by rw [List.length_drop]; omega) (by rw [List.length_drop]; omega))
  have hcp := hcap _ _ _ rfl
  have m1 : (2 : Int) ≤ (d.length : Int) := by omega
  have m3 : (2 : Int) < (d.length : Int) := by omega
  have m4 : (d.length : Int) ≤ 100000 := by omega
  have m5 : (2 : Int) ≤ (cap : Int) := by omega
  have m6 : (d.length : Int) ≤ (cap : Int) := by omega
  have m7 : ¬ cap = 2 := by omega
  have m8 : 2 < cap := by omega
  have m9 : 2 ≤ d.length := by omega
  rw [← hws]
  have x0 := (P0.out.below.cell (p := ⟨b, off + 0, none⟩) (lt_cell p0)).trans p0
  simp only [Nat.add_zero] at x0
  obtain ⟨k0, _, _, _⟩ := P0.out.q.cells
  clear hv p0 hl h0 hy he hn hF hc hcap hws
  go_enter Tryd.func47, Tryd.ntmps47
  go_wp2_with fail
  rw [← hwx]
  clear hwx
  go_quiet (fail)
  generalize hw9 : wx.drewN nq = w2
  have P2 : Hid (QP w w2 f s c u) := Lib.hid (by rw [← hw9]; exact drewS nq P0.out)
  clear hw9 x0 k0
  obtain ⟨k0, k1, k2, k3⟩ := P2.out.q.cells
  obtain ⟨r0, r1, g0, g1⟩ := P2.out.p.cells
  go_wp2_with fail
  refine wp_region_held_drew (S := fun w' => w'.cell? ⟨w.heap.size, 2, none⟩ = some (.int .i64 c)) (by kernel_rfl) k2 (fun hHeld => ?_)
  refine wpAnyH_take (i := 0) (oi := { dst := some 43, op := Op.move (Operand.tmp 1), type := 25, pos := "ref.go:225", after := #[], guard := none }) (v := ?_) rfl (by kernel_rfl) (by kernel_rfl) (by kernel_rfl) (fun _ _ _ h => h) (Or.inl ⟨by rfl, ?_⟩) hHeld ?_
  rotate_left
  · (intro W hSw; (try dsimp only at hSw); go_simp; try with_reducible rfl)
  (try simp only [Act.put, List.setIfInBounds_toArray, List.set_cons_zero, List.set_cons_succ])
  refine wpAnyH_take (i := 1) (oi := { dst := some 44, op := Op.slice 25 (Operand.tmp 43) (some (Operand.const (Value.int IntKind.i64 2))) none none, type := 25, pos := "ref.go:225", after := #[{ on := 0, ground := Ground.data }], guard := none }) (v := ?_) rfl (by kernel_rfl) (by kernel_rfl) (by kernel_rfl) (fun _ _ _ h => h) (Or.inl ⟨by rfl, ?_⟩) hHeld ?_
  rotate_left
  · (intro W hSw; (try dsimp only at hSw); go_simp; try with_reducible rfl)
  (try simp only [Act.put, List.setIfInBounds_toArray, List.set_cons_zero, List.set_cons_succ])
  refine wpAnyH_take (i := 2) (oi := { dst := some 45, op := Op.fieldAddr 38 (Operand.tmp 2) 2, type := 0, pos := "ref.go:225", after := #[], guard := none }) (v := ?_) rfl (by kernel_rfl) (by kernel_rfl) (by kernel_rfl) (fun _ _ _ h => h) (Or.inl ⟨by rfl, ?_⟩) hHeld ?_
  rotate_left
  · (intro W hSw; (try dsimp only at hSw); go_simp; try with_reducible rfl)
  (try simp only [Act.put, List.setIfInBounds_toArray, List.set_cons_zero, List.set_cons_succ])
  refine wpAnyH_take (i := 3) (oi := { dst := some 46, op := Op.load 3 (Operand.tmp 45), type := 3, pos := "ref.go:225", after := #[{ on := 2, ground := Ground.data }], guard := none }) (v := ?_) rfl (by kernel_rfl) (by kernel_rfl) (by kernel_rfl) (fun _ _ _ h => h) (Or.inl ⟨by rfl, ?_⟩) hHeld ?_
  rotate_left
  · (intro W hSw; (try dsimp only at hSw); go_simp; try with_reducible rfl)
  (try simp only [Act.put, List.setIfInBounds_toArray, List.set_cons_zero, List.set_cons_succ])
  refine wpAnyH_ready (rs := [4]) (by kernel_rfl) (by simp) ?_
  refine AllReadyH.cons (o := { dst := some 47, op := Op.call { callee := Callee.value (Operand.func 59), args := #[Operand.tmp 44, Operand.tmp 46], argTypes := #[25, 3] }, type := 22, pos := "ref.go:225", after := #[{ on := 1, ground := Ground.data }, { on := 3, ground := Ground.data }], guard := none }) rfl (fun K hK => ?_) AllReadyH.nil
  go_simp
  refine (HU.out w2.drew (P2.out.on (Below.refl _ w2).drew).below (cap - 2)).mono ?_; rintro e w3 ⟨uv, rfl, ho, hb⟩; clear k0 k1 k2 k3 r0 r1 g0 g1; have P3 := Lib.hid ((P2.out.on (Below.refl _ w2).drew).on hb); have O3 := Lib.hid (own_base3 ho (P2.out.on (Below.refl _ w2).drew).below.size); obtain ⟨oa, on_, rfl⟩ := row_slice ho; obtain ⟨r0, r1, g0, g1⟩ := P3.out.p.cells; obtain ⟨_, _, k2, _⟩ := P3.out.q.cells; have HF := Lib.hid (rpl_fin P3.out O3.out); unfold fin2 at HF; have J2 := (box_fin P3.out 0 (.slice oa ws.length on_)).cells.2.2.1; clear ho hb; simp only []
  refine hK.out _ _ k2 (fun hHeld => ?_)
  clear hK K
  (try simp only [Act.put, List.setIfInBounds_toArray, List.set_cons_zero, List.set_cons_succ])
  refine wpAnyH_take (i := 5) (oi := { dst := some 48, op := Op.build 55 #[(1, Operand.tmp 47)], type := 55, pos := "ref.go:225", after := #[{ on := 4, ground := Ground.data }], guard := none }) (v := ?_) rfl (by kernel_rfl) (by kernel_rfl) (by kernel_rfl) (fun _ _ _ h => h) (Or.inl ⟨by rfl, ?_⟩) hHeld ?_
  rotate_left
  · (intro W hSw; (try dsimp only at hSw); go_simp; try with_reducible rfl)
  (try simp only [Act.put, List.setIfInBounds_toArray, List.set_cons_zero, List.set_cons_succ])
  refine wpAnyH_ready (rs := [6]) (by kernel_rfl) (by simp) ?_
  refine AllReadyH.cons (o := { dst := none, op := Op.store 55 (Operand.tmp 4) (Operand.tmp 48), type := 0, pos := "ref.go:225", after := #[{ on := 5, ground := Ground.data }, { on := 4, ground := Ground.chain }, { on := 0, ground := Ground.phase }, { on := 1, ground := Ground.phase }, { on := 2, ground := Ground.phase }, { on := 3, ground := Ground.phase }, { on := 4, ground := Ground.phase }, { on := 5, ground := Ground.phase }], guard := none }) rfl (fun K hK => ?_) AllReadyH.nil
  go_simp
  refine hK.out _ _ J2 (fun hHeld => ?_)
  clear hK K
  (try simp only [Act.put, List.setIfInBounds_toArray, List.set_cons_zero, List.set_cons_succ])
  refine wpAnyH_take (i := 7) (oi := { dst := some 5, op := Op.assign (Operand.const (Value.bool true)), type := 4, pos := "ref.go:225", after := #[{ on := 6, ground := Ground.chain }, { on := 0, ground := Ground.phase }, { on := 1, ground := Ground.phase }, { on := 2, ground := Ground.phase }, { on := 3, ground := Ground.phase }, { on := 4, ground := Ground.phase }, { on := 5, ground := Ground.phase }, { on := 6, ground := Ground.phase }], guard := none }) (v := ?_) rfl (by kernel_rfl) (by kernel_rfl) (by kernel_rfl) (fun _ _ _ h => h) (Or.inl ⟨by rfl, ?_⟩) hHeld ?_
  rotate_left
  · (intro W hSw; (try dsimp only at hSw); go_simp; try with_reducible rfl)
  (try simp only [Act.put, List.setIfInBounds_toArray, List.set_cons_zero, List.set_cons_succ])
  refine wpAnyH_done (by kernel_rfl) ?_ _
  clear hHeld r0 r1 g0 g1 k2 J2
  generalize (World.setCell (World.setCell w3 _ _) _ _) = W at HF ⊢
  obtain ⟨d0, d1, _, _⟩ := HF.out.1.cells
  go_wp2
  refine bodyPost_ret (v := .tuple #[.agg #[.int .i64 0, .slice oa ws.length on_], .bool true]) ?_ rfl HF.out.2
  simp [results, Tryd.results47, go_sem, d0, d1]
end Go.Proofs.YtngfaailbkadfaaDoor
/- yardref7.reply for every row of bytes; what a reply's own bytes are taken for; yardref7.Read. -/
namespace Go.Proofs.YtngfaailbkadfaaDoor
open Go.RowKit Go.Extern.Stop Go.Stop Go.Extern

def fB (d : List UInt8) : Int := ((d.getD 0 0).toNat : Int)
/-- Is a reply taken out of the bytes? -/
def rpOk (r : Rq) (d : List UInt8) : Prop :=
  if fB d = r.f + 128 then d.length = 2 ∧ (d.getD 1 0).toNat ≠ 0
  else if r.f = 1 ∨ r.f = 2 then (d.length : Int) - 2 = (r.c + 7) / 8
  else if r.f = 3 ∨ r.f = 4 then (d.length : Int) - 2 = 2 * r.c
  else True
instance (r : Rq) (d : List UInt8) : Decidable (rpOk r d) := by unfold rpOk; infer_instance
/-- Which one. -/
def rpF (r : Rq) (d : List UInt8) : Rp :=
  if fB d = r.f + 128 then ⟨((d.getD 1 0).toNat : Int), []⟩
  else if r.f = 1 ∨ r.f = 2 then ⟨0, unF (d.drop 2) r.c⟩
  else if r.f = 3 ∨ r.f = 4 then ⟨0, rgF (d.drop 2) r.c⟩
  else ⟨0, []⟩
theorem may_c {r : Rq} (h : r.may = true) : 1 ≤ r.c ∧ r.c ≤ 2000 := by
  cases kind_of h with
  | read hf hc hc2 hs hv => exact ⟨hc.1, hc2⟩
  | bit hf hc hs v hv hb => omega
  | reg hf hc hs v hv hb => omega
  | many hf hc hc1 hc2 hs hv hd => omega
theorem rpl_yes (r : Rq) (u v : Value) (d : List UInt8) (w : World) (hv : BytesAt w v d) (hl : d.length ≤ 3000) (h0 : 0 < d.length) (hm : r.may = true) (hcap : ∀ ao n cap, v = .slice ao n cap → n ≤ cap) (h : rpOk r d) : Calls Tryd.prog 47 #[.agg #[.int .i64 r.f, .int .i64 r.s, .int .i64 r.c, u], v] w (RplOk w (rpF r d).code (rpF r d).vs) := by
  have hf := f_ok hm
  have hc := may_c hm
  unfold rpOk at h
  unfold rpF
  by_cases he : fB d = r.f + 128
  · rw [if_pos he] at h ⊢
    exact rpl_code r.f r.s r.c u v d w hv hl h0 hf he h.1 h.2
  · rw [if_neg he] at h ⊢
    by_cases h1 : r.f = 1 ∨ r.f = 2
    · rw [if_pos h1] at h ⊢
      rcases h1 with h1 | h1
      · exact rpl_1ok r.f r.s r.c u v d w hv hl h0 he hc h1 hcap h
      · exact rpl_2ok r.f r.s r.c u v d w hv hl h0 he hc h1 hcap h
    · rw [if_neg h1] at h ⊢
      by_cases h3 : r.f = 3 ∨ r.f = 4
      · rw [if_pos h3] at h ⊢
        rcases h3 with h3 | h3
        · exact rpl_3ok r.f r.s r.c u v d w hv hl h0 he hc h3 hcap h
        · exact rpl_4ok r.f r.s r.c u v d w hv hl h0 he hc h3 hcap h
      · rw [if_neg h3]
        exact rpl_else r.f r.s r.c u v d w hv hl h0 hf he (by omega)
theorem rpl_not (r : Rq) (u v : Value) (d : List UInt8) (w : World) (hv : BytesAt w v d) (hl : d.length ≤ 3000) (h0 : 0 < d.length) (hm : r.may = true) (h : ¬ rpOk r d) : Calls Tryd.prog 47 #[.agg #[.int .i64 r.f, .int .i64 r.s, .int .i64 r.c, u], v] w (RplNo w) := by
  have hf := f_ok hm
  have hc := may_c hm
  unfold rpOk at h
  by_cases he : fB d = r.f + 128
  · rw [if_pos he] at h
    by_cases h2 : d.length = 2
    · exact rpl_zero r.f r.s r.c u v d w hv hl h0 hf he h2 (by
        rcases Nat.eq_zero_or_pos (d.getD 1 0).toNat with h3 | h3
        · exact h3
        · exact absurd ⟨h2, by omega⟩ h)
    · exact rpl_len r.f r.s r.c u v d w hv hl h0 hf he h2
  · rw [if_neg he] at h
    by_cases h1 : r.f = 1 ∨ r.f = 2
    · rw [if_pos h1] at h
      rcases h1 with h1 | h1
      · exact rpl_1no r.f r.s r.c u v d w hv hl h0 he hc h1 h
      · exact rpl_2no r.f r.s r.c u v d w hv hl h0 he hc h1 h
    · rw [if_neg h1] at h
      by_cases h3 : r.f = 3 ∨ r.f = 4
      · rw [if_pos h3] at h
        rcases h3 with h3 | h3
        · exact rpl_3no r.f r.s r.c u v d w hv hl h0 he hc h3 h
        · exact rpl_4no r.f r.s r.c u v d w hv hl h0 he hc h3 h
      · rw [if_neg h3] at h
        exact absurd trivial h
theorem unF_bits (d : List UInt8) (c : Int) : ∀ x ∈ unF d c, 0 ≤ x ∧ x ≤ 1 := by
  intro x hx
  unfold unF at hx
  obtain ⟨i, _, rfl⟩ := List.mem_map.1 hx
  omega
theorem rgF_words' (d : List UInt8) (c : Int) : ∀ x ∈ rgF d c, 0 ≤ x ∧ x ≤ 65535 := by
  intro x hx
  unfold rgF at hx
  obtain ⟨i, _, rfl⟩ := List.mem_map.1 hx
  exact atN_bounds d (2 * i)
/-- What is taken may be a reply. -/
theorem rp_may {r : Rq} {d : List UInt8} (hm : r.may = true) (h : rpOk r d) : mayR r (rpF r d) = true := by
  have hc := may_c hm
  have hb := getD_lt d 1
  unfold rpOk at h
  unfold rpF mayR
  by_cases he : fB d = r.f + 128
  · rw [if_pos he] at h ⊢
    dsimp only
    rw [Bool.and_eq_true]
    refine ⟨by unfold within; rw [Bool.and_eq_true]; exact ⟨decide_eq_true (by omega), decide_eq_true (by omega)⟩, ?_⟩
    rw [if_neg (fun x => by have := x.1; omega)]
    exact areV_iff.2 ⟨rfl, fun x hx => by cases hx⟩
  · rw [if_neg he] at h ⊢
    by_cases h1 : r.f = 1 ∨ r.f = 2
    · rw [if_pos h1] at h ⊢
      rw [Bool.and_eq_true]
      refine ⟨rfl, ?_⟩
      have hr : fReads r.f = true := by unfold fReads; exact decide_eq_true (by omega)
      have ht : fTop r.f = 1 := by rcases h1 with h1 | h1 <;> rw [h1] <;> decide
      rw [if_pos ⟨rfl, hr⟩, ht]
      refine areV_iff.2 ⟨?_, unF_bits _ _⟩
      rw [unF_length, List.length_drop]
      omega
    · rw [if_neg h1] at h ⊢
      by_cases h3 : r.f = 3 ∨ r.f = 4
      · rw [if_pos h3] at h ⊢
        rw [Bool.and_eq_true]
        refine ⟨rfl, ?_⟩
        have hr : fReads r.f = true := by unfold fReads; exact decide_eq_true (by omega)
        have ht : fTop r.f = 65535 := by rcases h3 with h3 | h3 <;> rw [h3] <;> decide
        rw [if_pos ⟨rfl, hr⟩, ht]
        refine areV_iff.2 ⟨?_, rgF_words' _ _⟩
        rw [rgF_length]
        omega
      · rw [if_neg h3]
        rw [Bool.and_eq_true]
        refine ⟨rfl, ?_⟩
        rw [if_neg (fun x => by have := x.2; unfold fReads at this; simp at this; omega)]
        exact areV_iff.2 ⟨rfl, fun x hx => by cases hx⟩
theorem fB_rd {d : List UInt8} (h : 0 < d.length) : fB d = (rdN d 0 1).1 := by
  cases d with
  | nil => simp at h
  | cons y l => rw [rdN_first]; rfl
/-- A reply's own bytes are taken for it. -/
theorem rp_ans {r : Rq} {p : Rp} (hm : r.may = true) (k : mayR r p = true) : rpOk r (ansF r p) ∧ rpF r (ansF r p) = p := by
  have hf := f_ok hm
  have hlen := ansF_length hm k
  have hfb : fB (ansF r p) = if p.code = 0 then r.f else r.f + 128 := by rw [fB_rd (by omega), ans_first hm k]
  unfold rpOk rpF
  rw [hfb]
  cases rkind_of hm k with
  | exc hc hv =>
    have hz : ¬ p.code = 0 := by omega
    rw [if_neg hz, if_pos rfl, if_pos rfl]
    have ha : ansF r p = be 1 (r.f + 128) ++ be 1 p.code := by unfold ansF; rw [if_neg hz]
    obtain ⟨y, hy, hyv⟩ := be_one_num (x := r.f + 128) (by omega) (by omega)
    obtain ⟨z, hz, hzv⟩ := be_one_num (x := p.code) (by omega) (by omega)
    rw [ha, hy, hz]
    refine ⟨⟨rfl, ?_⟩, ?_⟩
    · show z.toNat ≠ 0
      omega
    · show (⟨(z.toNat : Int), []⟩ : Rp) = p
      rw [hzv, ← hv]
  | read hc hr hl hv hd =>
    have h4 : r.f = 1 ∨ r.f = 2 ∨ r.f = 3 ∨ r.f = 4 := by unfold fReads at hr; simpa using hr
    have ha : ansF r p = be 1 r.f ++ putF r.f p.vs := by unfold ansF; rw [if_pos hc, if_pos hr]
    have hdl : (ansF r p).length = 2 + (dataF r.f p.vs).length := by
      rw [ha, List.length_append, be_length]
      unfold putF
      rw [List.length_append, be_length]
      omega
    have hdr : (ansF r p).drop 2 = dataF r.f p.vs := by
      have h2 : (be 1 r.f ++ be 1 ((dataF r.f p.vs).length : Int)).length = 2 := by simp [be_length]
      rw [ha]
      unfold putF
      rw [← List.append_assoc, ← h2, List.drop_left]
    have hpe : p = ⟨0, p.vs⟩ := by obtain ⟨code, vs⟩ := p; dsimp only at hc; rw [hc]
    have hne : ¬ r.f = r.f + 128 := by omega
    rw [if_pos hc, if_neg hne, if_neg hne, hdr, hdl]
    by_cases h1 : r.f = 1 ∨ r.f = 2
    · have ht : fTop r.f = 1 := by rcases h1 with h1 | h1 <;> rw [h1] <;> decide
      have hbits : Bits p.vs := by
        rcases hv with ⟨_, hb⟩ | ⟨ht', _⟩
        · exact hb
        · omega
      rw [if_pos h1, if_pos h1]
      refine ⟨?_, ?_⟩
      · rw [dataF_length, if_pos ht]; omega
      · have hun : unF (dataF r.f p.vs) r.c = p.vs := by
          unfold dataF
          rw [if_pos ht, ← hl]
          exact unF_pack hbits
        rw [hun]; exact hpe.symm
    · have h3 : r.f = 3 ∨ r.f = 4 := by omega
      have ht : fTop r.f = 65535 := by rcases h3 with h3 | h3 <;> rw [h3] <;> decide
      have hwords : Words p.vs := by
        rcases hv with ⟨ht', _⟩ | ⟨_, hb⟩
        · omega
        · exact hb
      rw [if_neg h1, if_neg h1, if_pos h3, if_pos h3]
      refine ⟨?_, ?_⟩
      · rw [dataF_length, if_neg (by omega)]; omega
      · have hun : rgF (dataF r.f p.vs) r.c = p.vs := by
          unfold dataF
          rw [if_neg (by omega), ← hl]
          exact rgF_words hwords
        rw [hun]; exact hpe.symm
  | done hc hr hv =>
    have h4 : ¬ (r.f = 1 ∨ r.f = 2 ∨ r.f = 3 ∨ r.f = 4) := fun h => by
      have : fReads r.f = true := by unfold fReads; exact decide_eq_true h
      rw [hr] at this; cases this
    have hne : ¬ r.f = r.f + 128 := by omega
    have h1 : ¬ (r.f = 1 ∨ r.f = 2) := fun x => h4 (by omega)
    have h3 : ¬ (r.f = 3 ∨ r.f = 4) := fun x => h4 (by omega)
    rw [if_pos hc, if_neg hne, if_neg hne, if_neg h1, if_neg h1, if_neg h3, if_neg h3]
    refine ⟨trivial, ?_⟩
    obtain ⟨code, vs⟩ := p
    dsimp only at hc hv
    rw [hc, hv]
/-- Bytes that tell a reply. -/
theorem read_rp {r : Rq} {d : List UInt8} (hm : r.may = true) (h : readB r d = true) : rpOk r d ∧ rpF r d = parseR r d ∧ ansF r (rpF r d) = d := by
  obtain ⟨h1, h2⟩ := readB_iff.1 h
  have h3 := rp_ans hm h1
  rw [h2] at h3
  exact ⟨h3.1, h3.2, by rw [h3.2]; exact h2⟩
theorem read_rp_no {r : Rq} {d : List UInt8} (hm : r.may = true) (h : readB r d = false) (hk : rpOk r d) : ansF r (rpF r d) ≠ d := fun h2 => by
  have h3 := readB_ans hm (rp_may hm hk)
  rw [h2, h] at h3
  cases h3
end Go.Proofs.YtngfaailbkadfaaDoor
