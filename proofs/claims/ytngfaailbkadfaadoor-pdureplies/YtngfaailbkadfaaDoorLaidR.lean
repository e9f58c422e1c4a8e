/- yardlaw7.PduReplies answers true for every request, reply and row of bytes that is not too long; older memory stands. -/
import Derived.Test.YtngfaailbkadfaaDoorS7
import Derived.Test.YtngfaailbkadfaaDoorSame
import Derived.Deep.RegionHeld3
import Derived.Test.YtngfaailbkadfaaDoorRows
import Derived.ProofKit
import Derived.LaidMore
import Derived.LaidHandle
import Derived.LaidLaws
import Derived.OpenShut
import Derived.Stop.Joined
import Derived.Stop.LaidErr
import Derived.Deep.Slices
import Derived.Deep.Fields
import Derived.Deep.SlicePairs
import Derived.ChangeSame
import Derived.Carry
namespace Go.Proofs.YtngfaailbkadfaaDoor
open Go.RowKit Go.Extern.Stop Go.Stop Go.Extern

/-- Both boxes that the law keeps what came in in. -/
structure LB (w W : World) (f s c : Int) (u : Value) (code : Int) (pv : Value) : Prop where
  q : W.heap[w.heap.size]? = some (.cells #[.int .i64 f, .int .i64 s, .int .i64 c, u] 24 (0, 0))
  p : W.heap[w.heap.size + 1]? = some (.cells #[.int .i64 code, pv] 52 (0, 0))
  below : Below w.heap.size w W
theorem LB.on {w W W' : World} {f s c : Int} {u : Value} {code : Int} {pv : Value} (h : LB w W f s c u code pv) (hb : Below W.heap.size W W') : LB w W' f s c u code pv := ⟨(hb.block _ (lt_heap h.q)).trans h.q, (hb.block _ (lt_heap h.p)).trans h.p, h.below.trans (hb.mono h.below.size)⟩
theorem LB.all {w W : World} {f s c : Int} {u : Value} {code : Int} {pv : Value} (h : LB w W f s c u code pv) : W.cell? ⟨w.heap.size, 0, none⟩ = some (.int .i64 f) ∧ W.cell? ⟨w.heap.size, 1, none⟩ = some (.int .i64 s) ∧ W.cell? ⟨w.heap.size, 2, none⟩ = some (.int .i64 c) ∧ W.cell? ⟨w.heap.size, 3, none⟩ = some u ∧ W.cell? ⟨w.heap.size + 1, 0, none⟩ = some (.int .i64 code) ∧ W.cell? ⟨w.heap.size + 1, 1, none⟩ = some pv := by
  obtain ⟨c0, c1, c2, c3⟩ := cells4' h.q
  obtain ⟨d0, d1⟩ := cells2' h.p
  exact ⟨c0, c1, c2, c3, d0, d1⟩
theorem lb_new (w : World) (f s c : Int) (u : Value) (code : Int) (pv : Value) : LB w ((w.alloc (.cells #[.int .i64 f, .int .i64 s, .int .i64 c, u] 24)).alloc (.cells #[.int .i64 code, pv] 52)) f s c u code pv := by
  have h1 := below_new w (.cells #[.int .i64 f, .int .i64 s, .int .i64 c, u] 24)
  have h2 := below_new (w.alloc (.cells #[.int .i64 f, .int .i64 s, .int .i64 c, u] 24)) (.cells #[.int .i64 code, pv] 52)
  have hq : (w.alloc (.cells #[.int .i64 f, .int .i64 s, .int .i64 c, u] 24)).heap[w.heap.size]? = some (.cells #[.int .i64 f, .int .i64 s, .int .i64 c, u] 24 (0, 0)) := heap_alloc_new w _
  refine ⟨(h2.block _ (lt_heap hq)).trans hq, ?_, h1.trans (h2.mono h1.size)⟩
  have := heap_alloc_new (w.alloc (.cells #[.int .i64 f, .int .i64 s, .int .i64 c, u] 24)) (.cells #[.int .i64 code, pv] 52)
  simpa using this
theorem fv_fin2 {ok : Bool} {x c : Int} {W : World} {k : Nat} {c0 : Int} {a0 : Option Addr} {n0 m0 : Nat} {fc : Int} {fs : Value} (h : FvIs ok x c W fc fs) (hb : BoxE W k c0 (.slice a0 n0 m0)) (c1 : Int) (V : Value) : FvIs ok x c (fin2 W k c1 V) fc fs := by
  rcases h with h | ⟨h1, h2, h3⟩
  · exact .inl h
  · refine .inr ⟨h1, h2, ?_⟩
    obtain ⟨ao, cap, hv, hc⟩ := h3
    refine ⟨ao, cap, hv, fun i hi => ?_⟩
    obtain ⟨g, ha, hlt, h0, h1'⟩ := hc i hi
    have hi0 : i = 0 := by simpa using hi
    have hne : g ≠ k := fun e => by
      subst e
      subst hi0
      have h3 := hb.cells.1
      rw [show (0 * 2 : Nat) = 0 from rfl, h3] at h0
      cases h0
    have hbk : (fin2 W k c1 V).heap[g]? = W.heap[g]? := (fin2_off W k c1 V).block g hlt (fun e => hne e)
    have hcell : ∀ o, (fin2 W k c1 V).cell? ⟨g, o, none⟩ = W.cell? ⟨g, o, none⟩ := fun o => by simp only [World.cell?, hbk]
    exact ⟨g, ha, Nat.lt_of_lt_of_le hlt (fin2_off W k c1 V).size, (hcell _).trans h0, (hcell _).trans h1'⟩
/-- What the law's other boxes hold: the document's error; both replies read; the document's other error. -/
structure PR (w : World) (k9 k11 k13 k14 : Nat) (fc : Int) (fs : Value) (mc : Int) (uq um : Value) (gc : Int) (gs : Value) : Prop where
  x9 : w.heap[k9]? = some (.cells #[.int .i64 fc, fs] 35 (0, 0))
  x11 : w.heap[k11]? = some (.cells #[.int .i64 mc, uq] 52 (0, 0))
  x13 : w.heap[k13]? = some (.cells #[.int .i64 mc, um] 55 (0, 0))
  x14 : w.heap[k14]? = some (.cells #[.int .i64 gc, gs] 35 (0, 0))
theorem PR.on {w w' : World} {k9 k11 k13 k14 : Nat} {fc : Int} {fs : Value} {mc : Int} {uq um : Value} {gc : Int} {gs : Value} (h : PR w k9 k11 k13 k14 fc fs mc uq um gc gs) (hb : Below w.heap.size w w') : PR w' k9 k11 k13 k14 fc fs mc uq um gc gs :=
  ⟨(hb.block _ (lt_heap h.x9)).trans h.x9, (hb.block _ (lt_heap h.x11)).trans h.x11, (hb.block _ (lt_heap h.x13)).trans h.x13, (hb.block _ (lt_heap h.x14)).trans h.x14⟩
theorem PR.all {w : World} {k9 k11 k13 k14 : Nat} {fc : Int} {fs : Value} {mc : Int} {uq um : Value} {gc : Int} {gs : Value} (h : PR w k9 k11 k13 k14 fc fs mc uq um gc gs) : w.cell? ⟨k9, 0, none⟩ = some (.int .i64 fc) ∧ w.cell? ⟨k9, 1, none⟩ = some fs ∧ w.cell? ⟨k11, 0, none⟩ = some (.int .i64 mc) ∧ w.cell? ⟨k11, 1, none⟩ = some uq ∧ w.cell? ⟨k13, 0, none⟩ = some (.int .i64 mc) ∧ w.cell? ⟨k13, 1, none⟩ = some um ∧ w.cell? ⟨k14, 0, none⟩ = some (.int .i64 gc) ∧ w.cell? ⟨k14, 1, none⟩ = some gs := by
  obtain ⟨t0, t1⟩ := cells2' h.x9
  obtain ⟨q0, q1⟩ := cells2' h.x11
  obtain ⟨p0, p1⟩ := cells2' h.x13
  obtain ⟨h0, h1⟩ := cells2' h.x14
  exact ⟨t0, t1, q0, q1, p0, p1, h0, h1⟩

set_option maxRecDepth 100000 in
set_option maxHeartbeats 8000000 in
theorem replies_in (f s c : Int) (vs : List Int) (ra : Option Addr) (rn : Nat) (code : Int) (ps : List Int) (pa : Option Addr) (pn : Nat) (d : List UInt8) (da : Option Addr) (dn : Nat) (w : World) (hg : ErrT w) (hv : IntsAt w (.slice ra vs.length rn) vs) (hp : IntsAt w (.slice pa ps.length pn) ps) (hd : BytesAt w (.slice da d.length dn) d) (hcap : d.length ≤ dn) (hl : vs.length ≤ 3000) (hlp : ps.length ≤ 3000) (hld : d.length ≤ 3000) :
    Calls Tryd.prog 4 #[.agg #[.int .i64 f, .int .i64 s, .int .i64 c, .slice ra vs.length rn], .agg #[.int .i64 code, .slice pa ps.length pn], .slice da d.length dn] w (Fine w) := by
  have HK : Hid (∀ W : World, Below w.heap.size w W → ErrT W) := Lib.hid fun W hb => hg.up hb
  have HV := Lib.hid hv
  have HP := Lib.hid hp
  have HD := Lib.hid hd
  have HCAP : Hid (∀ ao n cap, (Value.slice da d.length dn) = .slice ao n cap → n ≤ cap) := Lib.hid (fun ao n cap e => by
    simp only [Value.slice.injEq] at e
    omega)
  have hl' : (vs.length : Int) ≤ 3000 := by omega
  have hlp' : (ps.length : Int) ≤ 3000 := by omega
  have hld' : (d.length : Int) ≤ 3000 := by omega
  have HL := Lib.hid (And.intro hl (And.intro hlp hld))
  obtain ⟨wx, hwx⟩ : ∃ wx, wx = (w.alloc (.cells #[.int .i64 f, .int .i64 s, .int .i64 c, .slice ra vs.length rn] 24)).alloc (.cells #[.int .i64 code, .slice pa ps.length pn] 52) := ⟨_, rfl⟩
  have L0 : Hid (LB w wx f s c (.slice ra vs.length rn) code (.slice pa ps.length pn)) := Lib.hid (by rw [hwx]; exact lb_new _ _ _ _ _ _ _)
  clear hv hp hd hcap hl hlp hld hg
  go_enter Tryd.func4, Tryd.ntmps4
  go_wp2_with fail
  rw [← hwx]
  clear hwx
  refine (first_any _).mono ?_
  rintro e w1 ⟨rfl, hb⟩
  have L1 := Lib.hid (L0.out.on hb)
  clear hb
  obtain ⟨c0, c1, c2, c3, d0, d1⟩ := L1.out.all
  go_wp2_with fail
  refine (ans_pair ⟨f, s, c, vs⟩ ⟨code, ps⟩ _ _ w1 (HV.out.on L1.out.below) (HP.out.on L1.out.below) HL.out.1 HL.out.2.1).mono ?_
  rintro e w2 ⟨xa, xn, ev, rfl, hx, hev, hb⟩
  have L2 := Lib.hid (L1.out.on hb)
  have E2 := Lib.hid (And.intro hx hev)
  clear hb hx hev c0 c1 c2 c3 d0 d1
  obtain ⟨c0, c1, c2, c3, d0, d1⟩ := L2.out.all
  go_wp2_with fail
  have B0 : Hid (Below w2.heap.size w2 w2.drew) := Lib.hid ((Below.refl _ _).drew)
  clear c0 c1 c2 c3 d0 d1
  refine wp_region_held_drew (S := fun w' => Below w2.heap.size w2 w') (by kernel_rfl) B0.out (fun hHeld => ?_)
  refine wpAnyH_take (i := 0) (oi := { dst := some 40, op := Op.load 24 (Operand.tmp 3), type := 24, pos := "law.go:55", after := #[], guard := none }) (v := ?_) rfl (by kernel_rfl) (by kernel_rfl) (by kernel_rfl) (fun _ _ _ h => h) (Or.inl ⟨by rfl, ?_⟩) hHeld ?_
  rotate_left
  · (intro W hSw; (try dsimp only at hSw); obtain ⟨c0, c1, c2, c3, d0, d1⟩ := (L2.out.on hSw).all; go_simp; try with_reducible rfl)
  (try simp only [Act.put, List.setIfInBounds_toArray, List.set_cons_zero, List.set_cons_succ])
  refine wpAnyH_take (i := 2) (oi := { dst := some 42, op := Op.load 52 (Operand.tmp 4), type := 52, pos := "law.go:55", after := #[], guard := none }) (v := ?_) rfl (by kernel_rfl) (by kernel_rfl) (by kernel_rfl) (fun _ _ _ h => h) (Or.inl ⟨by rfl, ?_⟩) hHeld ?_
  rotate_left
  · (intro W hSw; (try dsimp only at hSw); obtain ⟨c0, c1, c2, c3, d0, d1⟩ := (L2.out.on hSw).all; go_simp; try with_reducible rfl)
  (try simp only [Act.put, List.setIfInBounds_toArray, List.set_cons_zero, List.set_cons_succ])
  refine wpAnyH_ready (rs := [1, 8]) (by kernel_rfl) (by simp) ?_
  refine AllReadyH.cons (o := { dst := some 41, op := Op.call { callee := Callee.value (Operand.func 9), args := #[Operand.tmp 40], argTypes := #[24] }, type := 38, pos := "law.go:55", after := #[{ on := 0, ground := Ground.data }], guard := none }) rfl (fun K hK => ?_) (AllReadyH.cons (o := { dst := some 10, op := Op.alloc 35, type := 0, pos := "law.go:55", after := #[], guard := none }) rfl (fun K hK => ?_) AllReadyH.nil)
  · go_simp
    refine (plain_any f s c ra vs.length rn w2.drew).mono ?_
    rintro e v1 ⟨rfl, hb⟩
    have B1 := Lib.hid (B0.out.trans (hb.mono B0.out.size))
    clear hb
    simp only []
    refine hK.out _ _ B1.out (fun hHeld => ?_)
    clear hK K
    (try simp only [Act.put, List.setIfInBounds_toArray, List.set_cons_zero, List.set_cons_succ])
    refine wpAnyH_ready (rs := [3, 8]) (by kernel_rfl) (by simp) ?_
    refine AllReadyH.cons (o := { dst := some 43, op := Op.call { callee := Callee.value (Operand.func 20), args := #[Operand.tmp 42], argTypes := #[52] }, type := 55, pos := "law.go:55", after := #[{ on := 2, ground := Ground.data }, { on := 1, ground := Ground.chain }], guard := none }) rfl (fun K hK => ?_) (AllReadyH.cons (o := { dst := some 10, op := Op.alloc 35, type := 0, pos := "law.go:55", after := #[], guard := none }) rfl (fun K hK => ?_) AllReadyH.nil)
    · go_simp
      refine (lreply_any code pa ps.length pn v1).mono ?_
      rintro e v2 ⟨rfl, hb⟩
      have B2 := Lib.hid (B1.out.trans (hb.mono B1.out.size))
      clear hb
      simp only []
      refine hK.out _ _ B2.out (fun hHeld => ?_)
      clear hK K
      (try simp only [Act.put, List.setIfInBounds_toArray, List.set_cons_zero, List.set_cons_succ])
      refine wpAnyH_ready (rs := [4, 8]) (by kernel_rfl) (by simp) ?_
      refine AllReadyH.cons (o := { dst := some 44, op := Op.call { callee := Callee.value (Operand.func 19), args := #[Operand.tmp 41, Operand.tmp 43], argTypes := #[38, 55] }, type := 36, pos := "law.go:55", after := #[{ on := 1, ground := Ground.data }, { on := 3, ground := Ground.data }, { on := 3, ground := Ground.chain }], guard := none }) rfl (fun K hK => ?_) (AllReadyH.cons (o := { dst := some 10, op := Op.alloc 35, type := 0, pos := "law.go:55", after := #[], guard := none }) rfl (fun K hK => ?_) AllReadyH.nil)
      · go_simp
        refine (rans_pair ⟨f, s, c, vs⟩ ⟨code, ps⟩ ra pa rn pn v2 (HV.out.on (L2.out.below.trans (B2.out.mono L2.out.below.size))) (HP.out.on (L2.out.below.trans (B2.out.mono L2.out.below.size))) HL.out.1 HL.out.2.1).mono ?_
        rintro e v3 ⟨ya, yn, fc, fa, fn, fm, rfl, hy, hfv, hb⟩
        have B3 := Lib.hid (B2.out.trans (hb.mono B2.out.size))
        have F3 := Lib.hid (And.intro hy hfv)
        clear hy hfv
        clear hb
        simp only []
        refine hK.out _ _ B3.out (fun hHeld => ?_)
        clear hK K
        (try simp only [Act.put, List.setIfInBounds_toArray, List.set_cons_zero, List.set_cons_succ])
        refine wpAnyH_take (i := 5) (oi := { dst := some 39, op := Op.move (Operand.tmp 44), type := 36, pos := "law.go:55", after := #[{ on := 4, ground := Ground.data }], guard := none }) (v := ?_) rfl (by kernel_rfl) (by kernel_rfl) (by kernel_rfl) (fun _ _ _ h => h) (Or.inl ⟨by rfl, ?_⟩) hHeld ?_
        rotate_left
        · (intro W hSw; (try dsimp only at hSw); go_simp; try with_reducible rfl)
        (try simp only [Act.put, List.setIfInBounds_toArray, List.set_cons_zero, List.set_cons_succ])
        refine wpAnyH_take (i := 6) (oi := { dst := some 45, op := Op.extract (Operand.tmp 39) 0, type := 25, pos := "law.go:55", after := #[{ on := 5, ground := Ground.data }], guard := none }) (v := ?_) rfl (by kernel_rfl) (by kernel_rfl) (by kernel_rfl) (fun _ _ _ h => h) (Or.inl ⟨by rfl, ?_⟩) hHeld ?_
        rotate_left
        · (intro W hSw; (try dsimp only at hSw); go_simp; try with_reducible rfl)
        (try simp only [Act.put, List.setIfInBounds_toArray, List.set_cons_zero, List.set_cons_succ])
        refine wpAnyH_take (i := 7) (oi := { dst := some 46, op := Op.extract (Operand.tmp 39) 1, type := 35, pos := "law.go:55", after := #[{ on := 5, ground := Ground.data }, { on := 9, ground := Ground.gcOnly Departure.lateStores }], guard := none }) (v := ?_) rfl (by kernel_rfl) (by kernel_rfl) (by kernel_rfl) (fun _ _ _ h => h) (Or.inl ⟨by rfl, ?_⟩) hHeld ?_
        rotate_left
        · (intro W hSw; (try dsimp only at hSw); go_simp; try with_reducible rfl)
        (try simp only [Act.put, List.setIfInBounds_toArray, List.set_cons_zero, List.set_cons_succ])
        refine wpAnyH_ready (rs := [8]) (by kernel_rfl) (by simp) ?_
        refine AllReadyH.cons (o := { dst := some 10, op := Op.alloc 35, type := 0, pos := "law.go:55", after := #[], guard := none }) rfl (fun K hK => ?_) AllReadyH.nil
        go_simp
        have B4 : Hid (Below w2.heap.size w2 (v3.alloc (.cells #[.int .i64 0, .slice none 0 0] 35))) := Lib.hid (B3.out.trans ((below_new v3 (.cells #[.int .i64 0, .slice none 0 0] 35)).mono B3.out.size))
        have Z4 : Hid (BoxE (v3.alloc (.cells #[.int .i64 0, .slice none 0 0] 35)) v3.heap.size 0 (.slice none 0 0)) := Lib.hid (heap_alloc_new v3 _)
        have G4 : Hid (w2.heap.size ≤ v3.heap.size) := Lib.hid B3.out.size
        have F4 := Lib.hid (And.intro (F3.out.1.on (below_new v3 (.cells #[.int .i64 0, .slice none 0 0] 35))) (F3.out.2.on (below_new v3 (.cells #[.int .i64 0, .slice none 0 0] 35))))
        refine hK.out _ _ B4.out (fun hHeld => ?_)
        clear hK K
        (try simp only [Act.put, List.setIfInBounds_toArray, List.set_cons_zero, List.set_cons_succ])
        refine wpAnyH_take (i := 9) (oi := { dst := some 9, op := Op.assign (Operand.tmp 45), type := 25, pos := "law.go:55", after := #[{ on := 6, ground := Ground.data }, { on := 4, ground := Ground.chain }, { on := 0, ground := Ground.phase }, { on := 1, ground := Ground.phase }, { on := 2, ground := Ground.phase }, { on := 3, ground := Ground.phase }, { on := 4, ground := Ground.phase }, { on := 5, ground := Ground.phase }, { on := 6, ground := Ground.phase }, { on := 7, ground := Ground.textOnly Departure.lateStores }, { on := 8, ground := Ground.phase }], guard := none }) (v := ?_) rfl (by kernel_rfl) (by kernel_rfl) (by kernel_rfl) (fun _ _ _ h => h) (Or.inl ⟨by rfl, ?_⟩) hHeld ?_
        rotate_left
        · (intro W hSw; (try dsimp only at hSw); go_simp; try with_reducible rfl)
        (try simp only [Act.put, List.setIfInBounds_toArray, List.set_cons_zero, List.set_cons_succ])
        obtain ⟨o0, o1, g0, g1⟩ := Z4.out.cells
        refine wpAnyH_ready (rs := [10]) (by kernel_rfl) (by simp) ?_
        refine AllReadyH.cons (o := { dst := none, op := Op.store 35 (Operand.tmp 10) (Operand.tmp 46), type := 0, pos := "law.go:55", after := #[{ on := 8, ground := Ground.data }, { on := 7, ground := Ground.data }, { on := 9, ground := Ground.chain }, { on := 0, ground := Ground.phase }, { on := 1, ground := Ground.phase }, { on := 2, ground := Ground.phase }, { on := 3, ground := Ground.phase }, { on := 4, ground := Ground.phase }, { on := 5, ground := Ground.phase }, { on := 6, ground := Ground.phase }, { on := 7, ground := Ground.phase }, { on := 8, ground := Ground.phase }, { on := 9, ground := Ground.phase }], guard := none }) rfl (fun K hK => ?_) AllReadyH.nil
        go_simp
        have HB : Below w2.heap.size w2 (v3.alloc (.cells #[.int .i64 fc, .slice fa fn fm] 35)) := B3.out.trans ((below_new v3 (.cells #[.int .i64 fc, .slice fa fn fm] 35)).mono B3.out.size)
        refine hK.out _ _ HB (fun hHeld => ?_)
        clear hK K
        (try simp only [Act.put, List.setIfInBounds_toArray, List.set_cons_zero, List.set_cons_succ])
        refine wpAnyH_done (by kernel_rfl) ?_ _
        have HZ : (v3.alloc (.cells #[.int .i64 fc, .slice fa fn fm] 35)).heap[v3.heap.size]? = some (.cells #[.int .i64 fc, .slice fa fn fm] 35 (0, 0)) := heap_alloc_new v3 _
        have HF := Lib.hid (And.intro (L2.out.on HB) (And.intro HZ (And.intro (And.intro (E2.out.1.on HB) (E2.out.2.on HB)) (And.intro (F3.out.1.on (below_new v3 (.cells #[.int .i64 fc, .slice fa fn fm] 35))) (F3.out.2.on (below_new v3 (.cells #[.int .i64 fc, .slice fa fn fm] 35)))))))
        clear HB HZ hHeld o0 o1 g0 g1
        generalize v3.alloc (.cells #[.int .i64 fc, .slice fa fn fm] 35) = W6 at HF ⊢
        generalize v3.heap.size = k9 at HF ⊢
        have L6 := Lib.hid HF.out.1
        have K96 := Lib.hid HF.out.2.1
        have E6 := Lib.hid HF.out.2.2.1
        have F6 := Lib.hid HF.out.2.2.2
        clear HF
        generalize ansL ⟨f, s, c, vs⟩ ⟨code, ps⟩ = L at *
        obtain ⟨c0, c1, c2, c3, d0, d1⟩ := L6.out.all
        go_wp2_with fail
        refine (read_pair ⟨f, s, c, vs⟩ _ _ d W6 (HV.out.on L6.out.below) (HD.out.on L6.out.below) HL.out.1 HL.out.2.2).mono ?_
        rintro e w7 ⟨qa, qn, ge, rfl, hq, hgev, hb⟩
        have HRD := Lib.hid (fun (W : World) (h1 : IntsAt W (.slice ra vs.length rn) vs) (h : BytesAt W (.slice da d.length dn) d) => rread_pair ⟨f, s, c, vs⟩ ra rn _ d W h1 h HL.out.1 HL.out.2.2 HCAP.out)
        have HDL := Lib.hid (repR_len ⟨f, s, c, vs⟩ d)
        have HOK2 := Lib.hid (readCode_ne ⟨f, s, c, vs⟩ d)
        generalize repR ⟨f, s, c, vs⟩ d = m at *
        obtain ⟨mc, mv⟩ := m
        unfold Rp.val
        unfold RRd at HRD
        dsimp only at hq HDL HRD ⊢
        have hnb := below_new w7 (.cells #[.int .i64 mc, .slice qa mv.length qn] 52)
        have hb2 := hb.trans (hnb.mono hb.size)
        have L8 := Lib.hid (L6.out.on hb2)
        have K98 := Lib.hid ((hb2.block _ (lt_heap K96.out)).trans K96.out)
        have E8 := Lib.hid (And.intro (E6.out.1.on hb2) (E6.out.2.on hb2))
        have F8 := Lib.hid (And.intro (F6.out.1.on hb2) (F6.out.2.on hb2))
        have G8 := Lib.hid (And.intro (hq.on hnb) (hgev.on hnb))
        have K118 : Hid ((w7.alloc (.cells #[.int .i64 mc, .slice qa mv.length qn] 52)).heap[w7.heap.size]? = some (.cells #[.int .i64 mc, .slice qa mv.length qn] 52 (0, 0))) := Lib.hid (heap_alloc_new w7 _)
        clear hb hnb hb2 hq hgev c0 c1 c2 c3 d0 d1
        obtain ⟨c0, c1, c2, c3, d0, d1⟩ := L8.out.all
        go_wp2_with fail
        generalize w7.alloc (.cells #[.int .i64 mc, .slice qa mv.length qn] 52) = w8 at *
        generalize w7.heap.size = k11 at *
        refine (plain_any f s c ra vs.length rn w8).mono ?_
        rintro e w9 ⟨rfl, hb⟩
        have L9 := Lib.hid (L8.out.on hb)
        have K99 := Lib.hid ((hb.block _ (lt_heap K98.out)).trans K98.out)
        have K119 := Lib.hid ((hb.block _ (lt_heap K118.out)).trans K118.out)
        have E9 := Lib.hid (And.intro (E8.out.1.on hb) (E8.out.2.on hb))
        have F9 := Lib.hid (And.intro (F8.out.1.on hb) (F8.out.2.on hb))
        have G9 := Lib.hid (And.intro (G8.out.1.on hb) (G8.out.2.on hb))
        clear hb c0 c1 c2 c3 d0 d1
        go_wp2_with fail
        refine (HRD.out w9 (HV.out.on L9.out.below) (HD.out.on L9.out.below)).mono ?_
        rintro e wa ⟨ba, bn, gc, ga, gn, gm, rfl, hp, hgf, hb⟩
        have hn1 := below_new wa (.cells #[.int .i64 mc, .slice ba mv.length bn] 55)
        have hn2 := below_new (wa.alloc (.cells #[.int .i64 mc, .slice ba mv.length bn] 55)) (.cells #[.int .i64 gc, .slice ga gn gm] 35)
        have hnb := hn1.trans (hn2.mono hn1.size)
        have hb2 := hb.trans (hnb.mono hb.size)
        have L11 := Lib.hid (L9.out.on hb2)
        have E11 := Lib.hid (And.intro (E9.out.1.on hb2) (E9.out.2.on hb2))
        have F11 := Lib.hid (And.intro (F9.out.1.on hb2) (F9.out.2.on hb2))
        have G11 := Lib.hid (And.intro (G9.out.1.on hb2) (G9.out.2.on hb2))
        have H11 := Lib.hid (And.intro (hp.on hnb) (hgf.on hnb))
        have P11 : Hid (PR ((wa.alloc (.cells #[.int .i64 mc, .slice ba mv.length bn] 55)).alloc (.cells #[.int .i64 gc, .slice ga gn gm] 35)) k9 k11 wa.heap.size (wa.heap.size + 1) fc (.slice fa fn fm) mc (.slice qa mv.length qn) (.slice ba mv.length bn) gc (.slice ga gn gm)) := Lib.hid (by
          have h55 : (wa.alloc (.cells #[.int .i64 mc, .slice ba mv.length bn] 55)).heap[wa.heap.size]? = some (.cells #[.int .i64 mc, .slice ba mv.length bn] 55 (0, 0)) := heap_alloc_new wa _
          refine ⟨(hb2.block _ (lt_heap K99.out)).trans K99.out, (hb2.block _ (lt_heap K119.out)).trans K119.out, (hn2.block _ (lt_heap h55)).trans h55, ?_⟩
          have := heap_alloc_new (wa.alloc (.cells #[.int .i64 mc, .slice ba mv.length bn] 55)) (.cells #[.int .i64 gc, .slice ga gn gm] 35)
          simpa using this)
        clear hb hn1 hn2 hnb hb2 hp hgf
        go_wp2_with fail
        generalize (wa.alloc (.cells #[.int .i64 mc, .slice ba mv.length bn] 55)).alloc (.cells #[.int .i64 gc, .slice ga gn gm] 35) = w11 at *
        generalize hk14 : wa.heap.size + 1 = k14 at *
        generalize wa.heap.size = k13 at *
        clear hk14
        refine (first_any w11).mono ?_
        rintro e y1 ⟨rfl, Y1⟩
        obtain ⟨a0, a1, q0, q1, p0, p1, h0, h1⟩ := (P11.out.on Y1).all
        have Z1 := Lib.hid Y1
        clear Y1
        go_wp2_with fail
        refine ((alike_any _ _ L L y1 (E11.out.1.on Z1.out) (F11.out.1.on Z1.out)).mono (fun e w' he => (⟨he.1.trans (by simp), he.2 ▸ Below.refl _ _⟩ : e = .returned (.bool true) ∧ Below y1.heap.size y1 w'))).mono ?_
        rintro e y2 ⟨rfl, hb⟩
        have Z2 := Lib.hid (Z1.out.trans (hb.mono Z1.out.size))
        clear hb a0 a1 q0 q1 p0 p1 h0 h1
        obtain ⟨a0, a1, q0, q1, p0, p1, h0, h1⟩ := (P11.out.on Z2.out).all
        go_wp2_with fail
        refine (err_pair (fun _ => by decide) (HK.out y2 (L11.out.below.trans (Z2.out.mono L11.out.below.size))) (E11.out.2.on Z2.out) (F11.out.2.on Z2.out)).mono ?_
        rintro e y3 ⟨rfl, hb⟩
        have Z3 := Lib.hid (Z2.out.trans (hb.mono Z2.out.size))
        clear hb a0 a1 q0 q1 p0 p1 h0 h1
        obtain ⟨a0, a1, q0, q1, p0, p1, h0, h1⟩ := (P11.out.on Z3.out).all
        go_wp2_with fail
        refine ((ints_any _ _ mv mv y3 (G11.out.1.on Z3.out) (H11.out.1.on Z3.out) (by have := HDL.out; omega)).mono (fun e w' he => (⟨he.1.trans (by simp), he.2⟩ : e = .returned (.bool true) ∧ Below y3.heap.size y3 w'))).mono ?_
        rintro e y4 ⟨rfl, hb⟩
        have Z4 := Lib.hid (Z3.out.trans (hb.mono Z3.out.size))
        clear hb a0 a1 q0 q1 p0 p1 h0 h1
        obtain ⟨a0, a1, q0, q1, p0, p1, h0, h1⟩ := (P11.out.on Z4.out).all
        go_wp2_with fail
        refine (err_pair (fun _ => HOK2.out) (HK.out y4 (L11.out.below.trans (Z4.out.mono L11.out.below.size))) (G11.out.2.on Z4.out) (H11.out.2.on Z4.out)).mono ?_
        rintro e y5 ⟨rfl, hb⟩
        have Z5 := Lib.hid (Z4.out.trans (hb.mono Z4.out.size))
        clear hb a0 a1 q0 q1 p0 p1 h0 h1
        go_wp2
        go_ret
        exact ⟨rfl, L11.out.below.trans (Z5.out.mono L11.out.below.size)⟩
      · go_simp
        have B5 : Hid (Below w2.heap.size w2 (v2.alloc (.cells #[.int .i64 0, .slice none 0 0] 35))) := Lib.hid (B2.out.trans ((below_new v2 (.cells #[.int .i64 0, .slice none 0 0] 35)).mono B2.out.size))
        have Z5 : Hid (BoxE (v2.alloc (.cells #[.int .i64 0, .slice none 0 0] 35)) v2.heap.size 0 (.slice none 0 0)) := Lib.hid (heap_alloc_new v2 _)
        have G5 : Hid (w2.heap.size ≤ v2.heap.size) := Lib.hid B2.out.size
        refine hK.out _ _ B5.out (fun hHeld => ?_)
        clear hK K
        (try simp only [Act.put, List.setIfInBounds_toArray, List.set_cons_zero, List.set_cons_succ])
        refine wpAnyH_ready (rs := [4]) (by kernel_rfl) (by simp) ?_
        refine AllReadyH.cons (o := { dst := some 44, op := Op.call { callee := Callee.value (Operand.func 19), args := #[Operand.tmp 41, Operand.tmp 43], argTypes := #[38, 55] }, type := 36, pos := "law.go:55", after := #[{ on := 1, ground := Ground.data }, { on := 3, ground := Ground.data }, { on := 3, ground := Ground.chain }], guard := none }) rfl (fun K hK => ?_) AllReadyH.nil
        go_simp
        refine (rans_pair ⟨f, s, c, vs⟩ ⟨code, ps⟩ ra pa rn pn (v2.alloc (.cells #[.int .i64 0, .slice none 0 0] 35)) (HV.out.on (L2.out.below.trans (B5.out.mono L2.out.below.size))) (HP.out.on (L2.out.below.trans (B5.out.mono L2.out.below.size))) HL.out.1 HL.out.2.1).mono ?_
        rintro e v6 ⟨ya, yn, fc, fa, fn, fm, rfl, hy, hfv, hb⟩
        have B6 := Lib.hid (B5.out.trans (hb.mono B5.out.size))
        have Z6 := Lib.hid (Z5.out.on hb)
        have F6 := Lib.hid (And.intro hy hfv)
        clear hy hfv
        clear hb
        simp only []
        refine hK.out _ _ B6.out (fun hHeld => ?_)
        clear hK K
        (try simp only [Act.put, List.setIfInBounds_toArray, List.set_cons_zero, List.set_cons_succ])
        refine wpAnyH_take (i := 5) (oi := { dst := some 39, op := Op.move (Operand.tmp 44), type := 36, pos := "law.go:55", after := #[{ on := 4, ground := Ground.data }], guard := none }) (v := ?_) rfl (by kernel_rfl) (by kernel_rfl) (by kernel_rfl) (fun _ _ _ h => h) (Or.inl ⟨by rfl, ?_⟩) hHeld ?_
        rotate_left
        · (intro W hSw; (try dsimp only at hSw); go_simp; try with_reducible rfl)
        (try simp only [Act.put, List.setIfInBounds_toArray, List.set_cons_zero, List.set_cons_succ])
        refine wpAnyH_take (i := 6) (oi := { dst := some 45, op := Op.extract (Operand.tmp 39) 0, type := 25, pos := "law.go:55", after := #[{ on := 5, ground := Ground.data }], guard := none }) (v := ?_) rfl (by kernel_rfl) (by kernel_rfl) (by kernel_rfl) (fun _ _ _ h => h) (Or.inl ⟨by rfl, ?_⟩) hHeld ?_
        rotate_left
        · (intro W hSw; (try dsimp only at hSw); go_simp; try with_reducible rfl)
        (try simp only [Act.put, List.setIfInBounds_toArray, List.set_cons_zero, List.set_cons_succ])
        refine wpAnyH_take (i := 7) (oi := { dst := some 46, op := Op.extract (Operand.tmp 39) 1, type := 35, pos := "law.go:55", after := #[{ on := 5, ground := Ground.data }, { on := 9, ground := Ground.gcOnly Departure.lateStores }], guard := none }) (v := ?_) rfl (by kernel_rfl) (by kernel_rfl) (by kernel_rfl) (fun _ _ _ h => h) (Or.inl ⟨by rfl, ?_⟩) hHeld ?_
        rotate_left
        · (intro W hSw; (try dsimp only at hSw); go_simp; try with_reducible rfl)
        (try simp only [Act.put, List.setIfInBounds_toArray, List.set_cons_zero, List.set_cons_succ])
        refine wpAnyH_take (i := 9) (oi := { dst := some 9, op := Op.assign (Operand.tmp 45), type := 25, pos := "law.go:55", after := #[{ on := 6, ground := Ground.data }, { on := 4, ground := Ground.chain }, { on := 0, ground := Ground.phase }, { on := 1, ground := Ground.phase }, { on := 2, ground := Ground.phase }, { on := 3, ground := Ground.phase }, { on := 4, ground := Ground.phase }, { on := 5, ground := Ground.phase }, { on := 6, ground := Ground.phase }, { on := 7, ground := Ground.textOnly Departure.lateStores }, { on := 8, ground := Ground.phase }], guard := none }) (v := ?_) rfl (by kernel_rfl) (by kernel_rfl) (by kernel_rfl) (fun _ _ _ h => h) (Or.inl ⟨by rfl, ?_⟩) hHeld ?_
        rotate_left
        · (intro W hSw; (try dsimp only at hSw); go_simp; try with_reducible rfl)
        (try simp only [Act.put, List.setIfInBounds_toArray, List.set_cons_zero, List.set_cons_succ])
        obtain ⟨o0, o1, g0, g1⟩ := Z6.out.cells
        refine wpAnyH_ready (rs := [10]) (by kernel_rfl) (by simp) ?_
        refine AllReadyH.cons (o := { dst := none, op := Op.store 35 (Operand.tmp 10) (Operand.tmp 46), type := 0, pos := "law.go:55", after := #[{ on := 8, ground := Ground.data }, { on := 7, ground := Ground.data }, { on := 9, ground := Ground.chain }, { on := 0, ground := Ground.phase }, { on := 1, ground := Ground.phase }, { on := 2, ground := Ground.phase }, { on := 3, ground := Ground.phase }, { on := 4, ground := Ground.phase }, { on := 5, ground := Ground.phase }, { on := 6, ground := Ground.phase }, { on := 7, ground := Ground.phase }, { on := 8, ground := Ground.phase }, { on := 9, ground := Ground.phase }], guard := none }) rfl (fun K hK => ?_) AllReadyH.nil
        go_simp
        refine hK.out _ _ (fin2_below B6.out _ G5.out _ _) (fun hHeld => ?_)
        clear hK K
        (try simp only [Act.put, List.setIfInBounds_toArray, List.set_cons_zero, List.set_cons_succ])
        refine wpAnyH_done (by kernel_rfl) ?_ _
        have HB := fin2_below B6.out _ G5.out fc (.slice fa fn fm)
        have HF := Lib.hid (And.intro (L2.out.on HB) (And.intro (fin2_box Z6.out fc (.slice fa fn fm)) (And.intro (And.intro (E2.out.1.on HB) (E2.out.2.on HB)) (And.intro (bytes_fin2 F6.out.1 Z6.out fc (.slice fa fn fm)) (fv_fin2 F6.out.2 Z6.out fc (.slice fa fn fm))))))
        unfold fin2 at HF
        clear HB hHeld o0 o1 g0 g1
        generalize (World.setCell (World.setCell v6 _ _) _ _) = W6 at HF ⊢
        generalize v2.heap.size = k9 at HF ⊢
        have L6 := Lib.hid HF.out.1
        have K96 := Lib.hid HF.out.2.1
        have E6 := Lib.hid HF.out.2.2.1
        have F6 := Lib.hid HF.out.2.2.2
        clear HF
        generalize ansL ⟨f, s, c, vs⟩ ⟨code, ps⟩ = L at *
        obtain ⟨c0, c1, c2, c3, d0, d1⟩ := L6.out.all
        go_wp2_with fail
        refine (read_pair ⟨f, s, c, vs⟩ _ _ d W6 (HV.out.on L6.out.below) (HD.out.on L6.out.below) HL.out.1 HL.out.2.2).mono ?_
        rintro e w7 ⟨qa, qn, ge, rfl, hq, hgev, hb⟩
        have HRD := Lib.hid (fun (W : World) (h1 : IntsAt W (.slice ra vs.length rn) vs) (h : BytesAt W (.slice da d.length dn) d) => rread_pair ⟨f, s, c, vs⟩ ra rn _ d W h1 h HL.out.1 HL.out.2.2 HCAP.out)
        have HDL := Lib.hid (repR_len ⟨f, s, c, vs⟩ d)
        have HOK2 := Lib.hid (readCode_ne ⟨f, s, c, vs⟩ d)
        generalize repR ⟨f, s, c, vs⟩ d = m at *
        obtain ⟨mc, mv⟩ := m
        unfold Rp.val
        unfold RRd at HRD
        dsimp only at hq HDL HRD ⊢
        have hnb := below_new w7 (.cells #[.int .i64 mc, .slice qa mv.length qn] 52)
        have hb2 := hb.trans (hnb.mono hb.size)
        have L8 := Lib.hid (L6.out.on hb2)
        have K98 := Lib.hid ((hb2.block _ (lt_heap K96.out)).trans K96.out)
        have E8 := Lib.hid (And.intro (E6.out.1.on hb2) (E6.out.2.on hb2))
        have F8 := Lib.hid (And.intro (F6.out.1.on hb2) (F6.out.2.on hb2))
        have G8 := Lib.hid (And.intro (hq.on hnb) (hgev.on hnb))
        have K118 : Hid ((w7.alloc (.cells #[.int .i64 mc, .slice qa mv.length qn] 52)).heap[w7.heap.size]? = some (.cells #[.int .i64 mc, .slice qa mv.length qn] 52 (0, 0))) := Lib.hid (heap_alloc_new w7 _)
        clear hb hnb hb2 hq hgev c0 c1 c2 c3 d0 d1
        obtain ⟨c0, c1, c2, c3, d0, d1⟩ := L8.out.all
        go_wp2_with fail
        generalize w7.alloc (.cells #[.int .i64 mc, .slice qa mv.length qn] 52) = w8 at *
        generalize w7.heap.size = k11 at *
        refine (plain_any f s c ra vs.length rn w8).mono ?_
        rintro e w9 ⟨rfl, hb⟩
        have L9 := Lib.hid (L8.out.on hb)
        have K99 := Lib.hid ((hb.block _ (lt_heap K98.out)).trans K98.out)
        have K119 := Lib.hid ((hb.block _ (lt_heap K118.out)).trans K118.out)
        have E9 := Lib.hid (And.intro (E8.out.1.on hb) (E8.out.2.on hb))
        have F9 := Lib.hid (And.intro (F8.out.1.on hb) (F8.out.2.on hb))
        have G9 := Lib.hid (And.intro (G8.out.1.on hb) (G8.out.2.on hb))
        clear hb c0 c1 c2 c3 d0 d1
        go_wp2_with fail
        refine (HRD.out w9 (HV.out.on L9.out.below) (HD.out.on L9.out.below)).mono ?_
        rintro e wa ⟨ba, bn, gc, ga, gn, gm, rfl, hp, hgf, hb⟩
        have hn1 := below_new wa (.cells #[.int .i64 mc, .slice ba mv.length bn] 55)
        have hn2 := below_new (wa.alloc (.cells #[.int .i64 mc, .slice ba mv.length bn] 55)) (.cells #[.int .i64 gc, .slice ga gn gm] 35)
        have hnb := hn1.trans (hn2.mono hn1.size)
        have hb2 := hb.trans (hnb.mono hb.size)
        have L11 := Lib.hid (L9.out.on hb2)
        have E11 := Lib.hid (And.intro (E9.out.1.on hb2) (E9.out.2.on hb2))
        have F11 := Lib.hid (And.intro (F9.out.1.on hb2) (F9.out.2.on hb2))
        have G11 := Lib.hid (And.intro (G9.out.1.on hb2) (G9.out.2.on hb2))
        have H11 := Lib.hid (And.intro (hp.on hnb) (hgf.on hnb))
        have P11 : Hid (PR ((wa.alloc (.cells #[.int .i64 mc, .slice ba mv.length bn] 55)).alloc (.cells #[.int .i64 gc, .slice ga gn gm] 35)) k9 k11 wa.heap.size (wa.heap.size + 1) fc (.slice fa fn fm) mc (.slice qa mv.length qn) (.slice ba mv.length bn) gc (.slice ga gn gm)) := Lib.hid (by
          have h55 : (wa.alloc (.cells #[.int .i64 mc, .slice ba mv.length bn] 55)).heap[wa.heap.size]? = some (.cells #[.int .i64 mc, .slice ba mv.length bn] 55 (0, 0)) := heap_alloc_new wa _
          refine ⟨(hb2.block _ (lt_heap K99.out)).trans K99.out, (hb2.block _ (lt_heap K119.out)).trans K119.out, (hn2.block _ (lt_heap h55)).trans h55, ?_⟩
          have := heap_alloc_new (wa.alloc (.cells #[.int .i64 mc, .slice ba mv.length bn] 55)) (.cells #[.int .i64 gc, .slice ga gn gm] 35)
          simpa using this)
        clear hb hn1 hn2 hnb hb2 hp hgf
        go_wp2_with fail
        generalize (wa.alloc (.cells #[.int .i64 mc, .slice ba mv.length bn] 55)).alloc (.cells #[.int .i64 gc, .slice ga gn gm] 35) = w11 at *
        generalize hk14 : wa.heap.size + 1 = k14 at *
        generalize wa.heap.size = k13 at *
        clear hk14
        refine (first_any w11).mono ?_
        rintro e y1 ⟨rfl, Y1⟩
        obtain ⟨a0, a1, q0, q1, p0, p1, h0, h1⟩ := (P11.out.on Y1).all
        have Z1 := Lib.hid Y1
        clear Y1
        go_wp2_with fail
        refine ((alike_any _ _ L L y1 (E11.out.1.on Z1.out) (F11.out.1.on Z1.out)).mono (fun e w' he => (⟨he.1.trans (by simp), he.2 ▸ Below.refl _ _⟩ : e = .returned (.bool true) ∧ Below y1.heap.size y1 w'))).mono ?_
        rintro e y2 ⟨rfl, hb⟩
        have Z2 := Lib.hid (Z1.out.trans (hb.mono Z1.out.size))
        clear hb a0 a1 q0 q1 p0 p1 h0 h1
        obtain ⟨a0, a1, q0, q1, p0, p1, h0, h1⟩ := (P11.out.on Z2.out).all
        go_wp2_with fail
        refine (err_pair (fun _ => by decide) (HK.out y2 (L11.out.below.trans (Z2.out.mono L11.out.below.size))) (E11.out.2.on Z2.out) (F11.out.2.on Z2.out)).mono ?_
        rintro e y3 ⟨rfl, hb⟩
        have Z3 := Lib.hid (Z2.out.trans (hb.mono Z2.out.size))
        clear hb a0 a1 q0 q1 p0 p1 h0 h1
        obtain ⟨a0, a1, q0, q1, p0, p1, h0, h1⟩ := (P11.out.on Z3.out).all
        go_wp2_with fail
        refine ((ints_any _ _ mv mv y3 (G11.out.1.on Z3.out) (H11.out.1.on Z3.out) (by have := HDL.out; omega)).mono (fun e w' he => (⟨he.1.trans (by simp), he.2⟩ : e = .returned (.bool true) ∧ Below y3.heap.size y3 w'))).mono ?_
        rintro e y4 ⟨rfl, hb⟩
        have Z4 := Lib.hid (Z3.out.trans (hb.mono Z3.out.size))
        clear hb a0 a1 q0 q1 p0 p1 h0 h1
        obtain ⟨a0, a1, q0, q1, p0, p1, h0, h1⟩ := (P11.out.on Z4.out).all
        go_wp2_with fail
        refine (err_pair (fun _ => HOK2.out) (HK.out y4 (L11.out.below.trans (Z4.out.mono L11.out.below.size))) (G11.out.2.on Z4.out) (H11.out.2.on Z4.out)).mono ?_
        rintro e y5 ⟨rfl, hb⟩
        have Z5 := Lib.hid (Z4.out.trans (hb.mono Z4.out.size))
        clear hb a0 a1 q0 q1 p0 p1 h0 h1
        go_wp2
        go_ret
        exact ⟨rfl, L11.out.below.trans (Z5.out.mono L11.out.below.size)⟩
    · go_simp
      have B7 : Hid (Below w2.heap.size w2 (v1.alloc (.cells #[.int .i64 0, .slice none 0 0] 35))) := Lib.hid (B1.out.trans ((below_new v1 (.cells #[.int .i64 0, .slice none 0 0] 35)).mono B1.out.size))
      have Z7 : Hid (BoxE (v1.alloc (.cells #[.int .i64 0, .slice none 0 0] 35)) v1.heap.size 0 (.slice none 0 0)) := Lib.hid (heap_alloc_new v1 _)
      have G7 : Hid (w2.heap.size ≤ v1.heap.size) := Lib.hid B1.out.size
      refine hK.out _ _ B7.out (fun hHeld => ?_)
      clear hK K
      (try simp only [Act.put, List.setIfInBounds_toArray, List.set_cons_zero, List.set_cons_succ])
      refine wpAnyH_ready (rs := [3]) (by kernel_rfl) (by simp) ?_
      refine AllReadyH.cons (o := { dst := some 43, op := Op.call { callee := Callee.value (Operand.func 20), args := #[Operand.tmp 42], argTypes := #[52] }, type := 55, pos := "law.go:55", after := #[{ on := 2, ground := Ground.data }, { on := 1, ground := Ground.chain }], guard := none }) rfl (fun K hK => ?_) AllReadyH.nil
      go_simp
      refine (lreply_any code pa ps.length pn (v1.alloc (.cells #[.int .i64 0, .slice none 0 0] 35))).mono ?_
      rintro e v8 ⟨rfl, hb⟩
      have B8 := Lib.hid (B7.out.trans (hb.mono B7.out.size))
      have Z8 := Lib.hid (Z7.out.on hb)
      clear hb
      simp only []
      refine hK.out _ _ B8.out (fun hHeld => ?_)
      clear hK K
      (try simp only [Act.put, List.setIfInBounds_toArray, List.set_cons_zero, List.set_cons_succ])
      refine wpAnyH_ready (rs := [4]) (by kernel_rfl) (by simp) ?_
      refine AllReadyH.cons (o := { dst := some 44, op := Op.call { callee := Callee.value (Operand.func 19), args := #[Operand.tmp 41, Operand.tmp 43], argTypes := #[38, 55] }, type := 36, pos := "law.go:55", after := #[{ on := 1, ground := Ground.data }, { on := 3, ground := Ground.data }, { on := 3, ground := Ground.chain }], guard := none }) rfl (fun K hK => ?_) AllReadyH.nil
      go_simp
      refine (rans_pair ⟨f, s, c, vs⟩ ⟨code, ps⟩ ra pa rn pn v8 (HV.out.on (L2.out.below.trans (B8.out.mono L2.out.below.size))) (HP.out.on (L2.out.below.trans (B8.out.mono L2.out.below.size))) HL.out.1 HL.out.2.1).mono ?_
      rintro e v9 ⟨ya, yn, fc, fa, fn, fm, rfl, hy, hfv, hb⟩
      have B9 := Lib.hid (B8.out.trans (hb.mono B8.out.size))
      have Z9 := Lib.hid (Z8.out.on hb)
      have F9 := Lib.hid (And.intro hy hfv)
      clear hy hfv
      clear hb
      simp only []
      refine hK.out _ _ B9.out (fun hHeld => ?_)
      clear hK K
      (try simp only [Act.put, List.setIfInBounds_toArray, List.set_cons_zero, List.set_cons_succ])
      refine wpAnyH_take (i := 5) (oi := { dst := some 39, op := Op.move (Operand.tmp 44), type := 36, pos := "law.go:55", after := #[{ on := 4, ground := Ground.data }], guard := none }) (v := ?_) rfl (by kernel_rfl) (by kernel_rfl) (by kernel_rfl) (fun _ _ _ h => h) (Or.inl ⟨by rfl, ?_⟩) hHeld ?_
      rotate_left
      · (intro W hSw; (try dsimp only at hSw); go_simp; try with_reducible rfl)
      (try simp only [Act.put, List.setIfInBounds_toArray, List.set_cons_zero, List.set_cons_succ])
      refine wpAnyH_take (i := 6) (oi := { dst := some 45, op := Op.extract (Operand.tmp 39) 0, type := 25, pos := "law.go:55", after := #[{ on := 5, ground := Ground.data }], guard := none }) (v := ?_) rfl (by kernel_rfl) (by kernel_rfl) (by kernel_rfl) (fun _ _ _ h => h) (Or.inl ⟨by rfl, ?_⟩) hHeld ?_
      rotate_left
      · (intro W hSw; (try dsimp only at hSw); go_simp; try with_reducible rfl)
      (try simp only [Act.put, List.setIfInBounds_toArray, List.set_cons_zero, List.set_cons_succ])
      refine wpAnyH_take (i := 7) (oi := { dst := some 46, op := Op.extract (Operand.tmp 39) 1, type := 35, pos := "law.go:55", after := #[{ on := 5, ground := Ground.data }, { on := 9, ground := Ground.gcOnly Departure.lateStores }], guard := none }) (v := ?_) rfl (by kernel_rfl) (by kernel_rfl) (by kernel_rfl) (fun _ _ _ h => h) (Or.inl ⟨by rfl, ?_⟩) hHeld ?_
      rotate_left
      · (intro W hSw; (try dsimp only at hSw); go_simp; try with_reducible rfl)
      (try simp only [Act.put, List.setIfInBounds_toArray, List.set_cons_zero, List.set_cons_succ])
      refine wpAnyH_take (i := 9) (oi := { dst := some 9, op := Op.assign (Operand.tmp 45), type := 25, pos := "law.go:55", after := #[{ on := 6, ground := Ground.data }, { on := 4, ground := Ground.chain }, { on := 0, ground := Ground.phase }, { on := 1, ground := Ground.phase }, { on := 2, ground := Ground.phase }, { on := 3, ground := Ground.phase }, { on := 4, ground := Ground.phase }, { on := 5, ground := Ground.phase }, { on := 6, ground := Ground.phase }, { on := 7, ground := Ground.textOnly Departure.lateStores }, { on := 8, ground := Ground.phase }], guard := none }) (v := ?_) rfl (by kernel_rfl) (by kernel_rfl) (by kernel_rfl) (fun _ _ _ h => h) (Or.inl ⟨by rfl, ?_⟩) hHeld ?_
      rotate_left
      · (intro W hSw; (try dsimp only at hSw); go_simp; try with_reducible rfl)
      (try simp only [Act.put, List.setIfInBounds_toArray, List.set_cons_zero, List.set_cons_succ])
      obtain ⟨o0, o1, g0, g1⟩ := Z9.out.cells
      refine wpAnyH_ready (rs := [10]) (by kernel_rfl) (by simp) ?_
      refine AllReadyH.cons (o := { dst := none, op := Op.store 35 (Operand.tmp 10) (Operand.tmp 46), type := 0, pos := "law.go:55", after := #[{ on := 8, ground := Ground.data }, { on := 7, ground := Ground.data }, { on := 9, ground := Ground.chain }, { on := 0, ground := Ground.phase }, { on := 1, ground := Ground.phase }, { on := 2, ground := Ground.phase }, { on := 3, ground := Ground.phase }, { on := 4, ground := Ground.phase }, { on := 5, ground := Ground.phase }, { on := 6, ground := Ground.phase }, { on := 7, ground := Ground.phase }, { on := 8, ground := Ground.phase }, { on := 9, ground := Ground.phase }], guard := none }) rfl (fun K hK => ?_) AllReadyH.nil
      go_simp
      refine hK.out _ _ (fin2_below B9.out _ G7.out _ _) (fun hHeld => ?_)
      clear hK K
      (try simp only [Act.put, List.setIfInBounds_toArray, List.set_cons_zero, List.set_cons_succ])
      refine wpAnyH_done (by kernel_rfl) ?_ _
      have HB := fin2_below B9.out _ G7.out fc (.slice fa fn fm)
      have HF := Lib.hid (And.intro (L2.out.on HB) (And.intro (fin2_box Z9.out fc (.slice fa fn fm)) (And.intro (And.intro (E2.out.1.on HB) (E2.out.2.on HB)) (And.intro (bytes_fin2 F9.out.1 Z9.out fc (.slice fa fn fm)) (fv_fin2 F9.out.2 Z9.out fc (.slice fa fn fm))))))
      unfold fin2 at HF
      clear HB hHeld o0 o1 g0 g1
      generalize (World.setCell (World.setCell v9 _ _) _ _) = W6 at HF ⊢
      generalize v1.heap.size = k9 at HF ⊢
      have L6 := Lib.hid HF.out.1
      have K96 := Lib.hid HF.out.2.1
      have E6 := Lib.hid HF.out.2.2.1
      have F6 := Lib.hid HF.out.2.2.2
      clear HF
      generalize ansL ⟨f, s, c, vs⟩ ⟨code, ps⟩ = L at *
      obtain ⟨c0, c1, c2, c3, d0, d1⟩ := L6.out.all
      go_wp2_with fail
      refine (read_pair ⟨f, s, c, vs⟩ _ _ d W6 (HV.out.on L6.out.below) (HD.out.on L6.out.below) HL.out.1 HL.out.2.2).mono ?_
      rintro e w7 ⟨qa, qn, ge, rfl, hq, hgev, hb⟩
      have HRD := Lib.hid (fun (W : World) (h1 : IntsAt W (.slice ra vs.length rn) vs) (h : BytesAt W (.slice da d.length dn) d) => rread_pair ⟨f, s, c, vs⟩ ra rn _ d W h1 h HL.out.1 HL.out.2.2 HCAP.out)
      have HDL := Lib.hid (repR_len ⟨f, s, c, vs⟩ d)
      have HOK2 := Lib.hid (readCode_ne ⟨f, s, c, vs⟩ d)
      generalize repR ⟨f, s, c, vs⟩ d = m at *
      obtain ⟨mc, mv⟩ := m
      unfold Rp.val
      unfold RRd at HRD
      dsimp only at hq HDL HRD ⊢
      have hnb := below_new w7 (.cells #[.int .i64 mc, .slice qa mv.length qn] 52)
      have hb2 := hb.trans (hnb.mono hb.size)
      have L8 := Lib.hid (L6.out.on hb2)
      have K98 := Lib.hid ((hb2.block _ (lt_heap K96.out)).trans K96.out)
      have E8 := Lib.hid (And.intro (E6.out.1.on hb2) (E6.out.2.on hb2))
      have F8 := Lib.hid (And.intro (F6.out.1.on hb2) (F6.out.2.on hb2))
      have G8 := Lib.hid (And.intro (hq.on hnb) (hgev.on hnb))
      have K118 : Hid ((w7.alloc (.cells #[.int .i64 mc, .slice qa mv.length qn] 52)).heap[w7.heap.size]? = some (.cells #[.int .i64 mc, .slice qa mv.length qn] 52 (0, 0))) := Lib.hid (heap_alloc_new w7 _)
      clear hb hnb hb2 hq hgev c0 c1 c2 c3 d0 d1
      obtain ⟨c0, c1, c2, c3, d0, d1⟩ := L8.out.all
      go_wp2_with fail
      generalize w7.alloc (.cells #[.int .i64 mc, .slice qa mv.length qn] 52) = w8 at *
      generalize w7.heap.size = k11 at *
      refine (plain_any f s c ra vs.length rn w8).mono ?_
      rintro e w9 ⟨rfl, hb⟩
      have L9 := Lib.hid (L8.out.on hb)
      have K99 := Lib.hid ((hb.block _ (lt_heap K98.out)).trans K98.out)
      have K119 := Lib.hid ((hb.block _ (lt_heap K118.out)).trans K118.out)
      have E9 := Lib.hid (And.intro (E8.out.1.on hb) (E8.out.2.on hb))
      have F9 := Lib.hid (And.intro (F8.out.1.on hb) (F8.out.2.on hb))
      have G9 := Lib.hid (And.intro (G8.out.1.on hb) (G8.out.2.on hb))
      clear hb c0 c1 c2 c3 d0 d1
      go_wp2_with fail
      refine (HRD.out w9 (HV.out.on L9.out.below) (HD.out.on L9.out.below)).mono ?_
      rintro e wa ⟨ba, bn, gc, ga, gn, gm, rfl, hp, hgf, hb⟩
      have hn1 := below_new wa (.cells #[.int .i64 mc, .slice ba mv.length bn] 55)
      have hn2 := below_new (wa.alloc (.cells #[.int .i64 mc, .slice ba mv.length bn] 55)) (.cells #[.int .i64 gc, .slice ga gn gm] 35)
      have hnb := hn1.trans (hn2.mono hn1.size)
      have hb2 := hb.trans (hnb.mono hb.size)
      have L11 := Lib.hid (L9.out.on hb2)
      have E11 := Lib.hid (And.intro (E9.out.1.on hb2) (E9.out.2.on hb2))
      have F11 := Lib.hid (And.intro (F9.out.1.on hb2) (F9.out.2.on hb2))
      have G11 := Lib.hid (And.intro (G9.out.1.on hb2) (G9.out.2.on hb2))
      have H11 := Lib.hid (And.intro (hp.on hnb) (hgf.on hnb))
      have P11 : Hid (PR ((wa.alloc (.cells #[.int .i64 mc, .slice ba mv.length bn] 55)).alloc (.cells #[.int .i64 gc, .slice ga gn gm] 35)) k9 k11 wa.heap.size (wa.heap.size + 1) fc (.slice fa fn fm) mc (.slice qa mv.length qn) (.slice ba mv.length bn) gc (.slice ga gn gm)) := Lib.hid (by
        have h55 : (wa.alloc (.cells #[.int .i64 mc, .slice ba mv.length bn] 55)).heap[wa.heap.size]? = some (.cells #[.int .i64 mc, .slice ba mv.length bn] 55 (0, 0)) := heap_alloc_new wa _
        refine ⟨(hb2.block _ (lt_heap K99.out)).trans K99.out, (hb2.block _ (lt_heap K119.out)).trans K119.out, (hn2.block _ (lt_heap h55)).trans h55, ?_⟩
        have := heap_alloc_new (wa.alloc (.cells #[.int .i64 mc, .slice ba mv.length bn] 55)) (.cells #[.int .i64 gc, .slice ga gn gm] 35)
        simpa using this)
      clear hb hn1 hn2 hnb hb2 hp hgf
      go_wp2_with fail
      generalize (wa.alloc (.cells #[.int .i64 mc, .slice ba mv.length bn] 55)).alloc (.cells #[.int .i64 gc, .slice ga gn gm] 35) = w11 at *
      generalize hk14 : wa.heap.size + 1 = k14 at *
      generalize wa.heap.size = k13 at *
      clear hk14
      refine (first_any w11).mono ?_
      rintro e y1 ⟨rfl, Y1⟩
      obtain ⟨a0, a1, q0, q1, p0, p1, h0, h1⟩ := (P11.out.on Y1).all
      have Z1 := Lib.hid Y1
      clear Y1
      go_wp2_with fail
      refine ((alike_any _ _ L L y1 (E11.out.1.on Z1.out) (F11.out.1.on Z1.out)).mono (fun e w' he => (⟨he.1.trans (by simp), he.2 ▸ Below.refl _ _⟩ : e = .returned (.bool true) ∧ Below y1.heap.size y1 w'))).mono ?_
      rintro e y2 ⟨rfl, hb⟩
      have Z2 := Lib.hid (Z1.out.trans (hb.mono Z1.out.size))
      clear hb a0 a1 q0 q1 p0 p1 h0 h1
      obtain ⟨a0, a1, q0, q1, p0, p1, h0, h1⟩ := (P11.out.on Z2.out).all
      go_wp2_with fail
      refine (err_pair (fun _ => by decide) (HK.out y2 (L11.out.below.trans (Z2.out.mono L11.out.below.size))) (E11.out.2.on Z2.out) (F11.out.2.on Z2.out)).mono ?_
      rintro e y3 ⟨rfl, hb⟩
      have Z3 := Lib.hid (Z2.out.trans (hb.mono Z2.out.size))
      clear hb a0 a1 q0 q1 p0 p1 h0 h1
      obtain ⟨a0, a1, q0, q1, p0, p1, h0, h1⟩ := (P11.out.on Z3.out).all
      go_wp2_with fail
      refine ((ints_any _ _ mv mv y3 (G11.out.1.on Z3.out) (H11.out.1.on Z3.out) (by have := HDL.out; omega)).mono (fun e w' he => (⟨he.1.trans (by simp), he.2⟩ : e = .returned (.bool true) ∧ Below y3.heap.size y3 w'))).mono ?_
      rintro e y4 ⟨rfl, hb⟩
      have Z4 := Lib.hid (Z3.out.trans (hb.mono Z3.out.size))
      clear hb a0 a1 q0 q1 p0 p1 h0 h1
      obtain ⟨a0, a1, q0, q1, p0, p1, h0, h1⟩ := (P11.out.on Z4.out).all
      go_wp2_with fail
      refine (err_pair (fun _ => HOK2.out) (HK.out y4 (L11.out.below.trans (Z4.out.mono L11.out.below.size))) (G11.out.2.on Z4.out) (H11.out.2.on Z4.out)).mono ?_
      rintro e y5 ⟨rfl, hb⟩
      have Z5 := Lib.hid (Z4.out.trans (hb.mono Z4.out.size))
      clear hb a0 a1 q0 q1 p0 p1 h0 h1
      go_wp2
      go_ret
      exact ⟨rfl, L11.out.below.trans (Z5.out.mono L11.out.below.size)⟩
  · go_simp
    have B10 : Hid (Below w2.heap.size w2 (w2.alloc (.cells #[.int .i64 0, .slice none 0 0] 35)).drew) := Lib.hid ((below_new w2 (.cells #[.int .i64 0, .slice none 0 0] 35)).drew)
    have Z10 : Hid (BoxE ((w2.alloc (.cells #[.int .i64 0, .slice none 0 0] 35)).drew) w2.heap.size 0 (.slice none 0 0)) := Lib.hid (heap_alloc_new w2 _)
    have G10 : Hid (w2.heap.size ≤ w2.heap.size) := Lib.hid (Nat.le_refl _)
    refine hK.out _ _ B10.out (fun hHeld => ?_)
    clear hK K
    (try simp only [Act.put, List.setIfInBounds_toArray, List.set_cons_zero, List.set_cons_succ])
    refine wpAnyH_ready (rs := [1]) (by kernel_rfl) (by simp) ?_
    refine AllReadyH.cons (o := { dst := some 41, op := Op.call { callee := Callee.value (Operand.func 9), args := #[Operand.tmp 40], argTypes := #[24] }, type := 38, pos := "law.go:55", after := #[{ on := 0, ground := Ground.data }], guard := none }) rfl (fun K hK => ?_) AllReadyH.nil
    go_simp
    refine (plain_any f s c ra vs.length rn ((w2.alloc (.cells #[.int .i64 0, .slice none 0 0] 35)).drew)).mono ?_
    rintro e v11 ⟨rfl, hb⟩
    have B11 := Lib.hid (B10.out.trans (hb.mono B10.out.size))
    have Z11 := Lib.hid (Z10.out.on hb)
    clear hb
    simp only []
    refine hK.out _ _ B11.out (fun hHeld => ?_)
    clear hK K
    (try simp only [Act.put, List.setIfInBounds_toArray, List.set_cons_zero, List.set_cons_succ])
    refine wpAnyH_ready (rs := [3]) (by kernel_rfl) (by simp) ?_
    refine AllReadyH.cons (o := { dst := some 43, op := Op.call { callee := Callee.value (Operand.func 20), args := #[Operand.tmp 42], argTypes := #[52] }, type := 55, pos := "law.go:55", after := #[{ on := 2, ground := Ground.data }, { on := 1, ground := Ground.chain }], guard := none }) rfl (fun K hK => ?_) AllReadyH.nil
    go_simp
    refine (lreply_any code pa ps.length pn v11).mono ?_
    rintro e v12 ⟨rfl, hb⟩
    have B12 := Lib.hid (B11.out.trans (hb.mono B11.out.size))
    have Z12 := Lib.hid (Z11.out.on hb)
    clear hb
    simp only []
    refine hK.out _ _ B12.out (fun hHeld => ?_)
    clear hK K
    (try simp only [Act.put, List.setIfInBounds_toArray, List.set_cons_zero, List.set_cons_succ])
    refine wpAnyH_ready (rs := [4]) (by kernel_rfl) (by simp) ?_
    refine AllReadyH.cons (o := { dst := some 44, op := Op.call { callee := Callee.value (Operand.func 19), args := #[Operand.tmp 41, Operand.tmp 43], argTypes := #[38, 55] }, type := 36, pos := "law.go:55", after := #[{ on := 1, ground := Ground.data }, { on := 3, ground := Ground.data }, { on := 3, ground := Ground.chain }], guard := none }) rfl (fun K hK => ?_) AllReadyH.nil
    go_simp
    refine (rans_pair ⟨f, s, c, vs⟩ ⟨code, ps⟩ ra pa rn pn v12 (HV.out.on (L2.out.below.trans (B12.out.mono L2.out.below.size))) (HP.out.on (L2.out.below.trans (B12.out.mono L2.out.below.size))) HL.out.1 HL.out.2.1).mono ?_
    rintro e v13 ⟨ya, yn, fc, fa, fn, fm, rfl, hy, hfv, hb⟩
    have B13 := Lib.hid (B12.out.trans (hb.mono B12.out.size))
    have Z13 := Lib.hid (Z12.out.on hb)
    have F13 := Lib.hid (And.intro hy hfv)
    clear hy hfv
    clear hb
    simp only []
    refine hK.out _ _ B13.out (fun hHeld => ?_)
    clear hK K
    (try simp only [Act.put, List.setIfInBounds_toArray, List.set_cons_zero, List.set_cons_succ])
    refine wpAnyH_take (i := 5) (oi := { dst := some 39, op := Op.move (Operand.tmp 44), type := 36, pos := "law.go:55", after := #[{ on := 4, ground := Ground.data }], guard := none }) (v := ?_) rfl (by kernel_rfl) (by kernel_rfl) (by kernel_rfl) (fun _ _ _ h => h) (Or.inl ⟨by rfl, ?_⟩) hHeld ?_
    rotate_left
    · (intro W hSw; (try dsimp only at hSw); go_simp; try with_reducible rfl)
    (try simp only [Act.put, List.setIfInBounds_toArray, List.set_cons_zero, List.set_cons_succ])
    refine wpAnyH_take (i := 6) (oi := { dst := some 45, op := Op.extract (Operand.tmp 39) 0, type := 25, pos := "law.go:55", after := #[{ on := 5, ground := Ground.data }], guard := none }) (v := ?_) rfl (by kernel_rfl) (by kernel_rfl) (by kernel_rfl) (fun _ _ _ h => h) (Or.inl ⟨by rfl, ?_⟩) hHeld ?_
    rotate_left
    · (intro W hSw; (try dsimp only at hSw); go_simp; try with_reducible rfl)
    (try simp only [Act.put, List.setIfInBounds_toArray, List.set_cons_zero, List.set_cons_succ])
    refine wpAnyH_take (i := 7) (oi := { dst := some 46, op := Op.extract (Operand.tmp 39) 1, type := 35, pos := "law.go:55", after := #[{ on := 5, ground := Ground.data }, { on := 9, ground := Ground.gcOnly Departure.lateStores }], guard := none }) (v := ?_) rfl (by kernel_rfl) (by kernel_rfl) (by kernel_rfl) (fun _ _ _ h => h) (Or.inl ⟨by rfl, ?_⟩) hHeld ?_
    rotate_left
    · (intro W hSw; (try dsimp only at hSw); go_simp; try with_reducible rfl)
    (try simp only [Act.put, List.setIfInBounds_toArray, List.set_cons_zero, List.set_cons_succ])
    refine wpAnyH_take (i := 9) (oi := { dst := some 9, op := Op.assign (Operand.tmp 45), type := 25, pos := "law.go:55", after := #[{ on := 6, ground := Ground.data }, { on := 4, ground := Ground.chain }, { on := 0, ground := Ground.phase }, { on := 1, ground := Ground.phase }, { on := 2, ground := Ground.phase }, { on := 3, ground := Ground.phase }, { on := 4, ground := Ground.phase }, { on := 5, ground := Ground.phase }, { on := 6, ground := Ground.phase }, { on := 7, ground := Ground.textOnly Departure.lateStores }, { on := 8, ground := Ground.phase }], guard := none }) (v := ?_) rfl (by kernel_rfl) (by kernel_rfl) (by kernel_rfl) (fun _ _ _ h => h) (Or.inl ⟨by rfl, ?_⟩) hHeld ?_
    rotate_left
    · (intro W hSw; (try dsimp only at hSw); go_simp; try with_reducible rfl)
    (try simp only [Act.put, List.setIfInBounds_toArray, List.set_cons_zero, List.set_cons_succ])
    obtain ⟨o0, o1, g0, g1⟩ := Z13.out.cells
    refine wpAnyH_ready (rs := [10]) (by kernel_rfl) (by simp) ?_
    refine AllReadyH.cons (o := { dst := none, op := Op.store 35 (Operand.tmp 10) (Operand.tmp 46), type := 0, pos := "law.go:55", after := #[{ on := 8, ground := Ground.data }, { on := 7, ground := Ground.data }, { on := 9, ground := Ground.chain }, { on := 0, ground := Ground.phase }, { on := 1, ground := Ground.phase }, { on := 2, ground := Ground.phase }, { on := 3, ground := Ground.phase }, { on := 4, ground := Ground.phase }, { on := 5, ground := Ground.phase }, { on := 6, ground := Ground.phase }, { on := 7, ground := Ground.phase }, { on := 8, ground := Ground.phase }, { on := 9, ground := Ground.phase }], guard := none }) rfl (fun K hK => ?_) AllReadyH.nil
    go_simp
    refine hK.out _ _ (fin2_below B13.out _ G10.out _ _) (fun hHeld => ?_)
    clear hK K
    (try simp only [Act.put, List.setIfInBounds_toArray, List.set_cons_zero, List.set_cons_succ])
    refine wpAnyH_done (by kernel_rfl) ?_ _
    have HB := fin2_below B13.out _ G10.out fc (.slice fa fn fm)
    have HF := Lib.hid (And.intro (L2.out.on HB) (And.intro (fin2_box Z13.out fc (.slice fa fn fm)) (And.intro (And.intro (E2.out.1.on HB) (E2.out.2.on HB)) (And.intro (bytes_fin2 F13.out.1 Z13.out fc (.slice fa fn fm)) (fv_fin2 F13.out.2 Z13.out fc (.slice fa fn fm))))))
    unfold fin2 at HF
    clear HB hHeld o0 o1 g0 g1
    generalize (World.setCell (World.setCell v13 _ _) _ _) = W6 at HF ⊢
    generalize w2.heap.size = k9 at HF ⊢
    have L6 := Lib.hid HF.out.1
    have K96 := Lib.hid HF.out.2.1
    have E6 := Lib.hid HF.out.2.2.1
    have F6 := Lib.hid HF.out.2.2.2
    clear HF
    generalize ansL ⟨f, s, c, vs⟩ ⟨code, ps⟩ = L at *
    obtain ⟨c0, c1, c2, c3, d0, d1⟩ := L6.out.all
    go_wp2_with fail
    refine (read_pair ⟨f, s, c, vs⟩ _ _ d W6 (HV.out.on L6.out.below) (HD.out.on L6.out.below) HL.out.1 HL.out.2.2).mono ?_
    rintro e w7 ⟨qa, qn, ge, rfl, hq, hgev, hb⟩
    have HRD := Lib.hid (fun (W : World) (h1 : IntsAt W (.slice ra vs.length rn) vs) (h : BytesAt W (.slice da d.length dn) d) => rread_pair ⟨f, s, c, vs⟩ ra rn _ d W h1 h HL.out.1 HL.out.2.2 HCAP.out)
    have HDL := Lib.hid (repR_len ⟨f, s, c, vs⟩ d)
    have HOK2 := Lib.hid (readCode_ne ⟨f, s, c, vs⟩ d)
    generalize repR ⟨f, s, c, vs⟩ d = m at *
    obtain ⟨mc, mv⟩ := m
    unfold Rp.val
    unfold RRd at HRD
    dsimp only at hq HDL HRD ⊢
    have hnb := below_new w7 (.cells #[.int .i64 mc, .slice qa mv.length qn] 52)
    have hb2 := hb.trans (hnb.mono hb.size)
    have L8 := Lib.hid (L6.out.on hb2)
    have K98 := Lib.hid ((hb2.block _ (lt_heap K96.out)).trans K96.out)
    have E8 := Lib.hid (And.intro (E6.out.1.on hb2) (E6.out.2.on hb2))
    have F8 := Lib.hid (And.intro (F6.out.1.on hb2) (F6.out.2.on hb2))
    have G8 := Lib.hid (And.intro (hq.on hnb) (hgev.on hnb))
    have K118 : Hid ((w7.alloc (.cells #[.int .i64 mc, .slice qa mv.length qn] 52)).heap[w7.heap.size]? = some (.cells #[.int .i64 mc, .slice qa mv.length qn] 52 (0, 0))) := Lib.hid (heap_alloc_new w7 _)
    clear hb hnb hb2 hq hgev c0 c1 c2 c3 d0 d1
    obtain ⟨c0, c1, c2, c3, d0, d1⟩ := L8.out.all
    go_wp2_with fail
    generalize w7.alloc (.cells #[.int .i64 mc, .slice qa mv.length qn] 52) = w8 at *
    generalize w7.heap.size = k11 at *
    refine (plain_any f s c ra vs.length rn w8).mono ?_
    rintro e w9 ⟨rfl, hb⟩
    have L9 := Lib.hid (L8.out.on hb)
    have K99 := Lib.hid ((hb.block _ (lt_heap K98.out)).trans K98.out)
    have K119 := Lib.hid ((hb.block _ (lt_heap K118.out)).trans K118.out)
    have E9 := Lib.hid (And.intro (E8.out.1.on hb) (E8.out.2.on hb))
    have F9 := Lib.hid (And.intro (F8.out.1.on hb) (F8.out.2.on hb))
    have G9 := Lib.hid (And.intro (G8.out.1.on hb) (G8.out.2.on hb))
    clear hb c0 c1 c2 c3 d0 d1
    go_wp2_with fail
    refine (HRD.out w9 (HV.out.on L9.out.below) (HD.out.on L9.out.below)).mono ?_
    rintro e wa ⟨ba, bn, gc, ga, gn, gm, rfl, hp, hgf, hb⟩
    have hn1 := below_new wa (.cells #[.int .i64 mc, .slice ba mv.length bn] 55)
    have hn2 := below_new (wa.alloc (.cells #[.int .i64 mc, .slice ba mv.length bn] 55)) (.cells #[.int .i64 gc, .slice ga gn gm] 35)
    have hnb := hn1.trans (hn2.mono hn1.size)
    have hb2 := hb.trans (hnb.mono hb.size)
    have L11 := Lib.hid (L9.out.on hb2)
    have E11 := Lib.hid (And.intro (E9.out.1.on hb2) (E9.out.2.on hb2))
    have F11 := Lib.hid (And.intro (F9.out.1.on hb2) (F9.out.2.on hb2))
    have G11 := Lib.hid (And.intro (G9.out.1.on hb2) (G9.out.2.on hb2))
    have H11 := Lib.hid (And.intro (hp.on hnb) (hgf.on hnb))
    have P11 : Hid (PR ((wa.alloc (.cells #[.int .i64 mc, .slice ba mv.length bn] 55)).alloc (.cells #[.int .i64 gc, .slice ga gn gm] 35)) k9 k11 wa.heap.size (wa.heap.size + 1) fc (.slice fa fn fm) mc (.slice qa mv.length qn) (.slice ba mv.length bn) gc (.slice ga gn gm)) := Lib.hid (by
      have h55 : (wa.alloc (.cells #[.int .i64 mc, .slice ba mv.length bn] 55)).heap[wa.heap.size]? = some (.cells #[.int .i64 mc, .slice ba mv.length bn] 55 (0, 0)) := heap_alloc_new wa _
      refine ⟨(hb2.block _ (lt_heap K99.out)).trans K99.out, (hb2.block _ (lt_heap K119.out)).trans K119.out, (hn2.block _ (lt_heap h55)).trans h55, ?_⟩
      have := heap_alloc_new (wa.alloc (.cells #[.int .i64 mc, .slice ba mv.length bn] 55)) (.cells #[.int .i64 gc, .slice ga gn gm] 35)
      simpa using this)
    clear hb hn1 hn2 hnb hb2 hp hgf
    go_wp2_with fail
    generalize (wa.alloc (.cells #[.int .i64 mc, .slice ba mv.length bn] 55)).alloc (.cells #[.int .i64 gc, .slice ga gn gm] 35) = w11 at *
    generalize hk14 : wa.heap.size + 1 = k14 at *
    generalize wa.heap.size = k13 at *
    clear hk14
    refine (first_any w11).mono ?_
    rintro e y1 ⟨rfl, Y1⟩
    obtain ⟨a0, a1, q0, q1, p0, p1, h0, h1⟩ := (P11.out.on Y1).all
    have Z1 := Lib.hid Y1
    clear Y1
    go_wp2_with fail
    refine ((alike_any _ _ L L y1 (E11.out.1.on Z1.out) (F11.out.1.on Z1.out)).mono (fun e w' he => (⟨he.1.trans (by simp), he.2 ▸ Below.refl _ _⟩ : e = .returned (.bool true) ∧ Below y1.heap.size y1 w'))).mono ?_
    rintro e y2 ⟨rfl, hb⟩
    have Z2 := Lib.hid (Z1.out.trans (hb.mono Z1.out.size))
    clear hb a0 a1 q0 q1 p0 p1 h0 h1
    obtain ⟨a0, a1, q0, q1, p0, p1, h0, h1⟩ := (P11.out.on Z2.out).all
    go_wp2_with fail
    refine (err_pair (fun _ => by decide) (HK.out y2 (L11.out.below.trans (Z2.out.mono L11.out.below.size))) (E11.out.2.on Z2.out) (F11.out.2.on Z2.out)).mono ?_
    rintro e y3 ⟨rfl, hb⟩
    have Z3 := Lib.hid (Z2.out.trans (hb.mono Z2.out.size))
    clear hb a0 a1 q0 q1 p0 p1 h0 h1
    obtain ⟨a0, a1, q0, q1, p0, p1, h0, h1⟩ := (P11.out.on Z3.out).all
    go_wp2_with fail
    refine ((ints_any _ _ mv mv y3 (G11.out.1.on Z3.out) (H11.out.1.on Z3.out) (by have := HDL.out; omega)).mono (fun e w' he => (⟨he.1.trans (by simp), he.2⟩ : e = .returned (.bool true) ∧ Below y3.heap.size y3 w'))).mono ?_
    rintro e y4 ⟨rfl, hb⟩
    have Z4 := Lib.hid (Z3.out.trans (hb.mono Z3.out.size))
    clear hb a0 a1 q0 q1 p0 p1 h0 h1
    obtain ⟨a0, a1, q0, q1, p0, p1, h0, h1⟩ := (P11.out.on Z4.out).all
    go_wp2_with fail
    refine (err_pair (fun _ => HOK2.out) (HK.out y4 (L11.out.below.trans (Z4.out.mono L11.out.below.size))) (G11.out.2.on Z4.out) (H11.out.2.on Z4.out)).mono ?_
    rintro e y5 ⟨rfl, hb⟩
    have Z5 := Lib.hid (Z4.out.trans (hb.mono Z4.out.size))
    clear hb a0 a1 q0 q1 p0 p1 h0 h1
    go_wp2
    go_ret
    exact ⟨rfl, L11.out.below.trans (Z5.out.mono L11.out.below.size)⟩
end Go.Proofs.YtngfaailbkadfaaDoor
/- yardlaw7.PduReplies, rows that are too long too. -/
namespace Go.Proofs.YtngfaailbkadfaaDoor
open Go.RowKit Go.Extern.Stop Go.Stop Go.Extern

set_option maxRecDepth 100000 in
set_option maxHeartbeats 4000000 in
theorem replies_any (r : Rq) (ra : Option Addr) (rn : Nat) (p : Rp) (pa : Option Addr) (pn : Nat) (d : List UInt8) (da : Option Addr) (dn : Nat) (w : World) (hg : ErrT w) (hv : IntsAt w (.slice ra r.vs.length rn) r.vs) (hp : IntsAt w (.slice pa p.vs.length pn) p.vs) (hd : BytesAt w (.slice da d.length dn) d) (hcap : d.length ≤ dn) :
    Calls Tryd.prog 4 #[r.val (.slice ra r.vs.length rn), p.val (.slice pa p.vs.length pn), .slice da d.length dn] w (Fine w) := by
  obtain ⟨f, s, c, vs⟩ := r
  obtain ⟨code, ps⟩ := p
  unfold Rq.val Rp.val
  dsimp only at hv hp ⊢
  by_cases h1 : vs.length ≤ 3000
  · by_cases h2 : ps.length ≤ 3000
    · by_cases h4 : d.length ≤ 3000
      · exact replies_in f s c vs ra rn code ps pa pn d da dn w hg hv hp hd hcap h1 h2 h4
      · have k1 : (vs.length : Int) ≤ 3000 := by omega
        have k2 : (ps.length : Int) ≤ 3000 := by omega
        have k3 : (3000 : Int) < (d.length : Int) := by omega
        clear h1 h2 h4
        clear hv hp hd hcap hg
        obtain ⟨wx, hwx⟩ : ∃ wx, wx = (w.alloc (.cells #[.int .i64 f, .int .i64 s, .int .i64 c, .slice ra vs.length rn] 24)).alloc (.cells #[.int .i64 code, .slice pa ps.length pn] 52) := ⟨_, rfl⟩
        have L0 : Hid (LB w wx f s c (.slice ra vs.length rn) code (.slice pa ps.length pn)) := Lib.hid (by rw [hwx]; exact lb_new _ _ _ _ _ _ _)
        go_enter Tryd.func4, Tryd.ntmps4
        go_wp2_with fail
        rw [← hwx]
        clear hwx
        refine (first_any _).mono ?_
        rintro e wa ⟨rfl, hb⟩
        have L1 := Lib.hid (L0.out.on hb)
        clear hb
        obtain ⟨c0, c1, c2, c3, d0, d1⟩ := L1.out.all
        go_wp2_with fail
        refine (first_any _).mono ?_
        rintro e wb ⟨rfl, hb⟩
        have BB := Lib.hid (L1.out.below.trans (hb.mono L1.out.below.size))
        clear hb
        go_wp2
        go_ret
        exact ⟨rfl, BB.out⟩
    · have k1 : (vs.length : Int) ≤ 3000 := by omega
      have k2 : (3000 : Int) < (ps.length : Int) := by omega
      clear h1 h2
      clear hv hp hd hcap hg
      obtain ⟨wx, hwx⟩ : ∃ wx, wx = (w.alloc (.cells #[.int .i64 f, .int .i64 s, .int .i64 c, .slice ra vs.length rn] 24)).alloc (.cells #[.int .i64 code, .slice pa ps.length pn] 52) := ⟨_, rfl⟩
      have L0 : Hid (LB w wx f s c (.slice ra vs.length rn) code (.slice pa ps.length pn)) := Lib.hid (by rw [hwx]; exact lb_new _ _ _ _ _ _ _)
      go_enter Tryd.func4, Tryd.ntmps4
      go_wp2_with fail
      rw [← hwx]
      clear hwx
      refine (first_any _).mono ?_
      rintro e wa ⟨rfl, hb⟩
      have L1 := Lib.hid (L0.out.on hb)
      clear hb
      obtain ⟨c0, c1, c2, c3, d0, d1⟩ := L1.out.all
      go_wp2_with fail
      refine (first_any _).mono ?_
      rintro e wb ⟨rfl, hb⟩
      have BB := Lib.hid (L1.out.below.trans (hb.mono L1.out.below.size))
      clear hb
      go_wp2
      go_ret
      exact ⟨rfl, BB.out⟩
  · have k1 : (3000 : Int) < (vs.length : Int) := by omega
    clear h1
    clear hv hp hd hcap hg
    obtain ⟨wx, hwx⟩ : ∃ wx, wx = (w.alloc (.cells #[.int .i64 f, .int .i64 s, .int .i64 c, .slice ra vs.length rn] 24)).alloc (.cells #[.int .i64 code, .slice pa ps.length pn] 52) := ⟨_, rfl⟩
    have L0 : Hid (LB w wx f s c (.slice ra vs.length rn) code (.slice pa ps.length pn)) := Lib.hid (by rw [hwx]; exact lb_new _ _ _ _ _ _ _)
    go_enter Tryd.func4, Tryd.ntmps4
    go_wp2_with fail
    rw [← hwx]
    clear hwx
    refine (first_any _).mono ?_
    rintro e wa ⟨rfl, hb⟩
    have L1 := Lib.hid (L0.out.on hb)
    clear hb
    obtain ⟨c0, c1, c2, c3, d0, d1⟩ := L1.out.all
    go_wp2_with fail
    refine (first_any _).mono ?_
    rintro e wb ⟨rfl, hb⟩
    have BB := Lib.hid (L1.out.below.trans (hb.mono L1.out.below.size))
    clear hb
    go_wp2
    go_ret
    exact ⟨rfl, BB.out⟩
end Go.Proofs.YtngfaailbkadfaaDoor
/- What the rows' one listed variable gives a walk: the type handle that errors.As reads; and how numbers and lists of calls that came in are opened. -/
namespace Go.Proofs.YtngfaailbkadfaaDoor
open Go.ChangeShapes Go.WideShapes Go.ChangeAt Go.WideMaps Go.WideElems Go.RowKit Go.Deep

theorem own : ownKnob Tryd.prog.godebug = none := by kernel_rfl
theorem gErr : Tryd.prog.globalNamed "errors.errorType" = some 0 := by kernel_rfl
theorem rtRow : (Tryd.prog.cutTypes.find? (·.1 == "internal/reflectlite.rtype")).map (·.2) = some 140 := by kernel_rfl
theorem types183 : Tryd.prog.types.size = 183 := by kernel_rfl
theorem oneRow : ((List.range 183).filter fun t => Tryd.prog.rowNamed t [101, 114, 114, 111, 114]) = [29] := by kernel_rfl
theorem laidOut : laidOutB Tryd.prog = true := by kernel_rfl

/-- The list of every row of this seat. -/
def laid1 : List (String × DataW Unit) := [("errors.errorType", Rows.laid_errors_errorType)]

theorem errT_of_laid {W : World} (h : laidMetH Tryd.prog laid1 W) : ErrT W := by
  have h' : laidMet Tryd.prog [] W ∧ handlesMet Tryd.prog [("errors.errorType", Rows.laid_errors_errorType)] W := h
  obtain ⟨name, u, ty, e1, e2, e3, e4, e5⟩ := h'.2 _ (List.mem_singleton.2 rfl)
  have en : name = [101, 114, 114, 111, 114] := (Option.some.inj e1).symm
  subst en
  obtain rfl := Option.some.inj (rtRow.symm.trans e2)
  have hm : ty ∈ (List.range 183).filter fun t => Tryd.prog.rowNamed t [101, 114, 114, 111, 114] := List.mem_filter.2 ⟨List.mem_range.2 (by rw [← types183]; exact e3), e4⟩
  rw [oneRow] at hm
  obtain rfl := List.mem_singleton.1 hm
  have hh : typeHandle Tryd.prog 29 = .pointer (some ⟨1, 29, none⟩) := by kernel_rfl
  rw [hh] at e5
  unfold ErrT
  simpa using World.var?_cell gErr e5 0

/-- The door's own heap meets the list. -/
theorem door_met (os : Os) (args : Array Value) : laidMetH Tryd.prog laid1 ((World.doorLaid Tryd.prog 8 os).forCall (fun _ _ => 0) ⟨#[], args, []⟩).memory :=
  laidMetH_of_parts3 (fuel := 8) (laidMet_of_run' 8 (by kernel_rfl) (by kernel_rfl)) (by kernel_rfl) (by kernel_rfl)


theorem oc_cells3 : Tryd.prog.cellsOf 3 = 1 := by kernel_rfl
theorem oc_cells5 : Tryd.prog.cellsOf 5 = 1 := by kernel_rfl
theorem oc_cells22 : Tryd.prog.cellsOf 22 = 1 := by kernel_rfl
theorem oc_cells24 : Tryd.prog.cellsOf 24 = 4 := by kernel_rfl
theorem oc_cells52 : Tryd.prog.cellsOf 52 = 2 := by kernel_rfl
theorem oc_sub {H : Type} {enc : TypeId × Value → H} {W : World} {fuel : Nat} {t : TypeId} {fs : Array Field} {cs : List Value} {x : DataW H × List MemPlace} (ht : Tryd.prog.underlying t = some (.struct fs))
    (h : DataW.trod enc Tryd.prog W 0 (fun _ => true) true fuel t cs = some x) (i : Nat) (f : Field) (hi : fs[i]? = some f) : ∃ n y, DataW.trod enc Tryd.prog W 0 (fun _ => true) true n f.type ((cs.drop f.offset).take (Tryd.prog.cellsOf f.type)) = some y := by
  obtain ⟨xs, n, _, _, _, hlen, hg⟩ := DataW.trod_struct ht h
  have hr := hg i f hi
  have hlt : i < xs.length := hlen ▸ (Array.getElem?_eq_some_iff.1 hi).1
  rw [List.getElem?_eq_getElem hlt] at hr
  exact ⟨n, _, hr⟩
theorem oc_field {H : Type} {enc : TypeId × Value → H} {W : World} {fuel : Nat} {t : TypeId} {fs : Array Field} {cs : List Value} {x : DataW H × List MemPlace} (ht : Tryd.prog.underlying t = some (.struct fs))
    (h : DataW.trod enc Tryd.prog W 0 (fun _ => true) true fuel t cs = some x) (i : Nat) (f : Field) (hi : fs[i]? = some f) (h3 : f.type = 3) : ∃ z : Int, (cs.drop f.offset).take 1 = [.int .i64 z] ∧ (Lit.int .i64 z).wf = true := by
  obtain ⟨n, y, hr⟩ := oc_sub ht h i f hi
  rw [h3, oc_cells3] at hr
  obtain ⟨z, hz, _, hw⟩ := DataW.trod_int Tryd.underlying3 hr
  exact ⟨z, hz, hw⟩
theorem oc_slice {H : Type} {enc : TypeId × Value → H} {W : World} {fuel : Nat} {t : TypeId} {fs : Array Field} {cs : List Value} {x : DataW H × List MemPlace} (ht : Tryd.prog.underlying t = some (.struct fs))
    (h : DataW.trod enc Tryd.prog W 0 (fun _ => true) true fuel t cs = some x) (i : Nat) (f : Field) (hi : fs[i]? = some f) (h3 : f.type = 22) : ∃ n y, DataW.trod enc Tryd.prog W 0 (fun _ => true) true n 22 ((cs.drop f.offset).take 1) = some y := by
  obtain ⟨n, y, hr⟩ := oc_sub ht h i f hi
  rw [h3, oc_cells22] at hr
  exact ⟨n, y, hr⟩
/-- Numbers that came in, with room for them. -/
theorem oc_ints {H : Type} {enc : TypeId × Value → H} {W : World} {fuel : Nat} {v : Value} {x : DataW H × List MemPlace} (hf : DataW.trod enc Tryd.prog W 0 (fun _ => true) true fuel 22 [v] = some x) : ∃ (ao : Option Addr) (cap : Nat) (l : List Int), v = .slice ao l.length cap ∧ IntsAt W (.slice ao l.length cap) l ∧ l.length ≤ cap := by
  rcases open_ints Tryd.underlying22 Tryd.underlying3 oc_cells3 hf with ⟨hcs, _⟩ | ⟨a, len, cap, zs, hcs, _, hl, _, hz, _, hc, _⟩
  · simp at hcs
    subst hcs
    exact ⟨none, 0, [], rfl, ⟨none, 0, rfl, fun i hi => by simp at hi⟩, Nat.le_refl _⟩
  · simp at hcs hz
    subst hcs
    have hlen : (zs.take len).length = len := by rw [List.length_take]; omega
    refine ⟨some a, cap, zs.take len, by rw [hlen], ⟨some a, cap, by rw [hlen], fun i hi => ?_⟩, by rw [hlen]; exact hl⟩
    have hlt2 : i < zs.length := by rw [hlen] at hi; omega
    have hk := hc i hlt2
    obtain ⟨b, off, spot⟩ := a
    have hspot : spot = none := by simpa [Addr.add] using World.cell?_spot (hc 0 (by omega))
    subst hspot
    rw [add_at] at hk
    refine ⟨b, off, rfl, hk.trans ?_⟩
    simp [List.getElem_take, List.getD, hlt2]
set_option maxRecDepth 100000 in
/-- A request that came in, opened. -/
theorem open_req {H : Type} {enc : TypeId × Value → H} {W : World} {base : Nat} {v : Value} {y : DataW H} {p : List MemPlace} (hok : Value.okWide Tryd.prog W .any base 24 v)
    (h : DataW.Trod enc Tryd.prog W 0 (fun _ => true) true 24 v y p) : ∃ (r : Rq) (u : Value), v = r.val u ∧ IntsAt W u r.vs := by
  obtain ⟨cs, rfl, hsz⟩ := okWide_struct Tryd.underlying24 hok
  obtain ⟨vs⟩ := cs
  obtain ⟨fuel, hf⟩ := h
  match vs, hsz.trans oc_cells24 with
  | [c0, c1, c2, c3], _ =>
    obtain ⟨z0, e0, _⟩ := oc_field Tryd.underlying24 hf 0 _ rfl rfl
    obtain ⟨z1, e1, _⟩ := oc_field Tryd.underlying24 hf 1 _ rfl rfl
    obtain ⟨z2, e2, _⟩ := oc_field Tryd.underlying24 hf 2 _ rfl rfl
    obtain ⟨n, y3, h3⟩ := oc_slice Tryd.underlying24 hf 3 _ rfl rfl
    simp [Value.cells] at e0 e1 e2 h3
    obtain ⟨ao, cap, l, e3, hi, _⟩ := oc_ints h3
    subst e0 e1 e2 e3
    exact ⟨⟨z0, z1, z2, l⟩, _, rfl, hi⟩
set_option maxRecDepth 100000 in
/-- A reply that came in, opened. -/
theorem open_rep {H : Type} {enc : TypeId × Value → H} {W : World} {base : Nat} {v : Value} {y : DataW H} {p : List MemPlace} (hok : Value.okWide Tryd.prog W .any base 52 v)
    (h : DataW.Trod enc Tryd.prog W 0 (fun _ => true) true 52 v y p) : ∃ (r : Rp) (ao : Option Addr) (cap : Nat), v = r.val (.slice ao r.vs.length cap) ∧ IntsAt W (.slice ao r.vs.length cap) r.vs ∧ r.vs.length ≤ cap := by
  obtain ⟨cs, rfl, hsz⟩ := okWide_struct Tryd.underlying52 hok
  obtain ⟨vs⟩ := cs
  obtain ⟨fuel, hf⟩ := h
  match vs, hsz.trans oc_cells52 with
  | [c0, c1], _ =>
    obtain ⟨z0, e0, _⟩ := oc_field Tryd.underlying52 hf 0 _ rfl rfl
    obtain ⟨n, y3, h3⟩ := oc_slice Tryd.underlying52 hf 1 _ rfl rfl
    simp [Value.cells] at e0 h3
    obtain ⟨ao, cap, l, e3, hi, hc⟩ := oc_ints h3
    subst e0 e3
    exact ⟨⟨z0, l⟩, _, _, rfl, hi, hc⟩
set_option maxRecDepth 100000 in
/-- Bytes that came in, opened. -/
theorem open_bytes {H : Type} {enc : TypeId × Value → H} {W : World} {fuel : Nat} {v : Value} {x : DataW H × List MemPlace} (hv : ∃ a n c, v = .slice a n c)
    (h : DataW.trod enc Tryd.prog W 0 (fun _ => true) true fuel 25 [v] = some x) : ∃ (l : List UInt8) (ao : Option Addr) (cap : Nat), v = .slice ao l.length cap ∧ BytesAt W (.slice ao l.length cap) l ∧ l.length ≤ maxLen ∧ l.length ≤ cap := by
  obtain ⟨a0, len0, cap0, rfl⟩ := hv
  rcases open_ints Tryd.underlying25 Tryd.underlying5 oc_cells5 h with ⟨hcs, _⟩ | ⟨a, len, cap, zs, hcs, _, hl, hm, hlen, _, hcell, hwf⟩
  · simp only [List.cons.injEq, Value.slice.injEq, and_true] at hcs
    obtain ⟨rfl, rfl, rfl⟩ := hcs
    exact ⟨[], none, 0, rfl, ⟨none, 0, rfl, fun i hi => by simp at hi⟩, Nat.zero_le _, Nat.le_refl _⟩
  · simp only [List.cons.injEq, Value.slice.injEq, and_true] at hcs
    obtain ⟨rfl, rfl, rfl⟩ := hcs
    have hzl : len0 ≤ zs.length := by rw [hlen]; simpa using hl
    have hll : ((zs.take len0).map fun z => UInt8.ofNat z.toNat).length = len0 := by simp; omega
    refine ⟨(zs.take len0).map fun z => UInt8.ofNat z.toNat, some a, cap0, by rw [hll], ⟨some a, cap0, rfl, fun i hi => ?_⟩, by rw [hll]; omega, by rw [hll]; omega⟩
    rw [hll] at hi
    have hc := hcell i (by omega)
    obtain ⟨b, off, spot⟩ := a
    have hspot : spot = none := by
      have := World.cell?_spot (hcell 0 (by omega))
      simpa [Addr.add] using this
    subst hspot
    rw [add_at] at hc
    refine ⟨b, off, rfl, ?_⟩
    have hz := bounds_u8 (hwf (zs[i]'(by omega)) (List.getElem_mem _))
    rw [hc]
    have hg : zs.getD i 0 = zs[i]'(by omega) := by simp [List.getD, List.getElem?_eq_getElem (show i < zs.length by omega)]
    simp only [List.getElem_map, List.getElem_take]
    rw [hg, UInt8.toNat_ofNat']
    congr 2
    omega

set_option maxRecDepth 100000 in
/-- .. as an argument. -/
theorem open_bytes_arg {H : Type} {enc : TypeId × Value → H} {W : World} {base : Nat} {v : Value} {d : DataW H} {p : List MemPlace} (hok : Value.okWide Tryd.prog W .any base 25 v)
    (h : DataW.Trod enc Tryd.prog W 0 (fun _ => true) true 25 v d p) : ∃ (l : List UInt8) (ao : Option Addr) (cap : Nat), v = .slice ao l.length cap ∧ BytesAt W (.slice ao l.length cap) l ∧ l.length ≤ maxLen ∧ l.length ≤ cap := by
  obtain ⟨a0, n0, c0, rfl⟩ := okWide_slice Tryd.underlying25 hok
  obtain ⟨fuel, hf⟩ := h
  exact open_bytes ⟨a0, n0, c0, rfl⟩ hf
end Go.Proofs.YtngfaailbkadfaaDoor
