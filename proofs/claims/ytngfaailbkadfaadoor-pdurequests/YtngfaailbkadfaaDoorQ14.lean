/- yardref7.guess: a request out of bytes, whether or not they are one. -/
import Derived.Test.YtngfaailbkadfaaDoorQ13
import Derived.Test.YtngfaailbkadfaaDoorQ9
namespace Go.Proofs.YtngfaailbkadfaaDoor
open Go.RowKit Go.Extern.Stop Go.Stop Go.Extern

set_option maxRecDepth 100000 in
set_option maxHeartbeats 2000000 in
theorem at_draws (v : Value) (l : List UInt8) (i : Nat) (w : World) (hv : BytesAt w v l) (hi : i + 1 < l.length) (hl : l.length ≤ 1000000) : Calls Tryd.prog 58 #[v, .int .i64 (i : Int)] w fun e w' => e = .returned (.int .i64 (atN l i)) ∧ ∃ n, w' = w.drewN n := by
  obtain ⟨b, off, cap, rfl, c0⟩ := bytes_getD hv i (by omega)
  obtain ⟨b', off', cap', he, c1⟩ := bytes_getD hv (i + 1) hi
  simp only [Value.slice.injEq, Option.some.injEq, Addr.mk.injEq, and_true, true_and] at he
  obtain ⟨⟨rfl, rfl⟩, rfl⟩ := he
  have h0 := getD_lt l i
  have h1 := getD_lt l (i + 1)
  have HA : Hid (atN l i = 256 * ((l.getD i 0).toNat : Int) + ((l.getD (i + 1) 0).toNat : Int)) := Lib.hid rfl
  have i0 : (0 : Int) ≤ (i : Int) := by omega
  have i1 : (i : Int) < (l.length : Int) := by omega
  have i2 : (i : Int) + 1 < (l.length : Int) := by omega
  have i3 : (0 : Int) ≤ (i : Int) + 1 := by omega
  have i4 : ((i : Int) + 1).toNat = i + 1 := by omega
  have i5 : wrap64 ((i : Int) + 1) = (i : Int) + 1 := by unfold wrap64; omega
  have i6 : IntKind.i64.wrap ((i : Int) + 1) = (i : Int) + 1 := by rw [IntKind.wrap_i64]; omega
  generalize (l.getD i 0).toNat = y at *
  generalize (l.getD (i + 1) 0).toNat = z at *
  have w0 : IntKind.i64.wrap (y : Int) = (y : Int) := by rw [IntKind.wrap_i64]; omega
  have w1 : IntKind.i64.wrap (z : Int) = (z : Int) := by rw [IntKind.wrap_i64]; omega
  clear hv
  go_enter Tryd.func58, Tryd.ntmps58
  go_wp2_with fail
  go_quiet (fail)
  go_wp2
  go_ret
  rw [HA.out]
  exact ⟨rfl, nq, rfl⟩


/-- What guess answers where it finds a request. -/
def GuessOk (w : World) (q : Rq) (e : Ending) (w' : World) : Prop := ∃ v, e = .returned (.tuple #[q.val v, .bool true]) ∧ w'.ownsRow w.heap.size 3 1 v q.vs.length (icells q.vs) ∧ Below w.heap.size w w'
/-- A request's box that guess made, and its own result's. -/
def GB (w W : World) (k : Nat) (f s c : Int) (v : Value) : Prop := BoxQ W k f s c v ∧ BoxQ W w.heap.size 0 0 0 (.slice none 0 0) ∧ Below w.heap.size w W ∧ w.heap.size < k
theorem GB.set {w W : World} {k : Nat} {f0 s0 c0 : Int} {v0 : Value} (h : GB w W k f0 s0 c0 v0) (f s c : Int) (v : Value) : GB w (fin4 W k f s c v) k f s c v :=
  ⟨fin4q_box h.1 _ _ _ _, ((fin4_off W k f s c v).block w.heap.size (lt_heap h.2.1) (by have := h.2.2.2; omega)).trans h.2.1, fin4q_below h.2.2.1 (Nat.le_of_lt h.2.2.2) _ _ _ _, h.2.2.2⟩
theorem GB.on {w W W' : World} {k : Nat} {f s c : Int} {v : Value} (h : GB w W k f s c v) (hb : Below W.heap.size W W') : GB w W' k f s c v := ⟨h.1.on hb, h.2.1.on hb, h.2.2.1.trans (hb.mono h.2.2.1.size), h.2.2.2⟩
theorem gb_new {w W : World} (hq : BoxQ W w.heap.size 0 0 0 (.slice none 0 0)) (hb : Below w.heap.size w W) (f s c : Int) (v : Value) : GB w (W.alloc (.cells #[.int .i64 f, .int .i64 s, .int .i64 c, v] 38)) W.heap.size f s c v := ⟨heap_alloc_new _ _, hq.on (below_new _ _), hb.trans ((below_new _ _).mono hb.size), lt_heap hq⟩

set_option maxRecDepth 100000 in
set_option maxHeartbeats 4000000 in
theorem guess_read (v : Value) (d : List UInt8) (w : World) (hv : BytesAt w v d) (hl : d.length ≤ 100000) (h5 : 5 ≤ d.length) (hf : (d.getD 0 0).toNat < 5 ∨ (6 < (d.getD 0 0).toNat ∧ (d.getD 0 0).toNat ≠ 15 ∧ (d.getD 0 0).toNat ≠ 16)) : Calls Tryd.prog 34 #[v] w (GuessOk w ⟨((d.getD 0 0).toNat : Int), atN d 1, atN d 3, []⟩) := by
  have HV := Lib.hid hv
  have HL := Lib.hid hl
  obtain ⟨wx, hwx⟩ : ∃ wx, wx = w.alloc (.cells #[.int .i64 0, .int .i64 0, .int .i64 0, .slice none 0 0] 38) := ⟨_, rfl⟩
  have X0 : Hid (Below w.heap.size w wx) := Lib.hid (by rw [hwx]; exact below_new w _)
  have B0 : Hid (BoxQ wx w.heap.size 0 0 0 (.slice none 0 0)) := Lib.hid (by rw [hwx]; exact heap_alloc_new w _)
  have V0 := Lib.hid (HV.out.on X0.out)
  obtain ⟨b, off, cap, rfl, c0⟩ := bytes_getD V0.out 0 (by omega)
  have hy := getD_lt d 0
  have H1 : Hid (∀ W : World, Below wx.heap.size wx W → Calls Tryd.prog 58 #[.slice (some ⟨b, off, none⟩) d.length cap, .int .i64 1] W fun e w' => e = .returned (.int .i64 (atN d 1)) ∧ Below W.heap.size W w') := Lib.hid (fun W h => at_any _ d 1 W (V0.out.on h) (by omega) (by have := HL.out; omega))
  have H3 : Hid (∀ W : World, Below wx.heap.size wx W → Calls Tryd.prog 58 #[.slice (some ⟨b, off, none⟩) d.length cap, .int .i64 3] W fun e w' => e = .returned (.int .i64 (atN d 3)) ∧ Below W.heap.size W w') := Lib.hid (fun W h => at_any _ d 3 W (V0.out.on h) (by omega) (by have := HL.out; omega))
  have l5 : ¬ (d.length : Int) < 5 := by omega
  have l6 : (5 : Int) ≤ (d.length : Int) := by omega
  have l7 : (0 : Int) < (d.length : Int) := by omega
  have l8 : 0 < d.length := by omega
  have w0 : IntKind.i64.wrap ((d.getD 0 0).toNat : Int) = ((d.getD 0 0).toNat : Int) := by rw [IntKind.wrap_i64]; omega
  rw [Nat.add_zero] at c0
  have c0' := (V0.out.on (Below.refl _ wx).drew)
  clear c0'
  have BD : Hid (Below wx.heap.size wx wx.drew) := Lib.hid (Below.refl _ wx).drew
  obtain ⟨WA, hWA⟩ : ∃ x, x = wx.drew.alloc (.cells #[.int .i64 0, .int .i64 0, .int .i64 0, .slice none 0 0] 38) := ⟨_, rfl⟩
  have BA : Hid (Below wx.heap.size wx (wx.drew.alloc (.cells #[.int .i64 0, .int .i64 0, .int .i64 0, .slice none 0 0] 38))) := Lib.hid (BD.out.trans (below_new wx.drew _))
  have GA : Hid (GB w (wx.drew.alloc (.cells #[.int .i64 0, .int .i64 0, .int .i64 0, .slice none 0 0] 38)) wx.heap.size 0 0 0 (.slice none 0 0)) := Lib.hid (gb_new (B0.out.on BD.out) (X0.out.trans (BD.out.mono X0.out.size)) 0 0 0 _)
  clear hWA WA
  have hcA := (BA.out.cell (lt_cell c0)).trans c0
  have n5 : (((d.getD 0 0).toNat : Int) == 5) = false := beq_eq_false_iff_ne.2 (by omega)
  have n6 : (((d.getD 0 0).toNat : Int) == 6) = false := beq_eq_false_iff_ne.2 (by omega)
  have n15 : (((d.getD 0 0).toNat : Int) == 15) = false := beq_eq_false_iff_ne.2 (by omega)
  have n16 : (((d.getD 0 0).toNat : Int) == 16) = false := beq_eq_false_iff_ne.2 (by omega)
  clear hf
  generalize (d.getD 0 0).toNat = y at *
  generalize atN d 1 = s at *
  generalize atN d 3 = c at *
  clear hv hl h5
  go_enter Tryd.func34, Tryd.ntmps34
  go_wp2_with fail
  rw [← hwx]
  clear hwx
  refine wp_region_held_drew (S := fun w' => Below wx.heap.size wx w') (by kernel_rfl) BD.out (fun hHeld => ?_)
  refine wpAnyH_take (i := 0) (oi := { dst := some 9, op := Op.move (Operand.tmp 0), type := 25, pos := "ref.go:141", after := #[], guard := none }) (v := ?_) rfl (by kernel_rfl) (by kernel_rfl) (by kernel_rfl) (fun _ _ _ h => h) (Or.inl ⟨by rfl, ?_⟩) hHeld ?_
  rotate_left
  · (intro W hSw; (try dsimp only at hSw); go_simp; try with_reducible rfl)
  (try simp only [Act.put, List.setIfInBounds_toArray, List.set_cons_zero, List.set_cons_succ])
  refine wpAnyH_take (i := 1) (oi := { dst := some 10, op := Op.indexAddr 25 (Operand.tmp 9) (Operand.const (Value.int IntKind.i64 0)), type := 0, pos := "ref.go:141", after := #[{ on := 0, ground := Ground.data }], guard := none }) (v := ?_) rfl (by kernel_rfl) (by kernel_rfl) (by kernel_rfl) (fun _ _ _ h => h) (Or.inl ⟨by rfl, ?_⟩) hHeld ?_
  rotate_left
  · (intro W hSw; (try dsimp only at hSw); go_simp; try with_reducible rfl)
  (try simp only [Act.put, List.setIfInBounds_toArray, List.set_cons_zero, List.set_cons_succ])
  refine wpAnyH_take (i := 2) (oi := { dst := some 11, op := Op.load 5 (Operand.tmp 10), type := 5, pos := "ref.go:141", after := #[{ on := 1, ground := Ground.data }], guard := none }) (v := ?_) rfl (by kernel_rfl) (by kernel_rfl) (by kernel_rfl) (fun _ _ _ h => h) (Or.inl ⟨by rfl, ?_⟩) hHeld ?_
  rotate_left
  · (intro W hSw; (try dsimp only at hSw); have hcx := (hSw.cell (lt_cell c0)).trans c0; go_simp; try with_reducible rfl)
  (try simp only [Act.put, List.setIfInBounds_toArray, List.set_cons_zero, List.set_cons_succ])
  refine wpAnyH_take (i := 3) (oi := { dst := some 12, op := Op.convert 5 3 (Operand.tmp 11), type := 3, pos := "ref.go:141", after := #[{ on := 2, ground := Ground.data }], guard := none }) (v := ?_) rfl (by kernel_rfl) (by kernel_rfl) (by kernel_rfl) (fun _ _ _ h => h) (Or.inl ⟨by rfl, ?_⟩) hHeld ?_
  rotate_left
  · (intro W hSw; (try dsimp only at hSw); go_simp; try with_reducible rfl)
  (try simp only [Act.put, List.setIfInBounds_toArray, List.set_cons_zero, List.set_cons_succ])
  refine wpAnyH_take (i := 4) (oi := { dst := some 13, op := Op.move (Operand.tmp 0), type := 25, pos := "ref.go:141", after := #[], guard := none }) (v := ?_) rfl (by kernel_rfl) (by kernel_rfl) (by kernel_rfl) (fun _ _ _ h => h) (Or.inl ⟨by rfl, ?_⟩) hHeld ?_
  rotate_left
  · (intro W hSw; (try dsimp only at hSw); go_simp; try with_reducible rfl)
  (try simp only [Act.put, List.setIfInBounds_toArray, List.set_cons_zero, List.set_cons_succ])
  refine wpAnyH_take (i := 6) (oi := { dst := some 15, op := Op.move (Operand.tmp 0), type := 25, pos := "ref.go:141", after := #[], guard := none }) (v := ?_) rfl (by kernel_rfl) (by kernel_rfl) (by kernel_rfl) (fun _ _ _ h => h) (Or.inl ⟨by rfl, ?_⟩) hHeld ?_
  rotate_left
  · (intro W hSw; (try dsimp only at hSw); go_simp; try with_reducible rfl)
  (try simp only [Act.put, List.setIfInBounds_toArray, List.set_cons_zero, List.set_cons_succ])
  refine wpAnyH_ready (rs := [5, 9]) (by kernel_rfl) (by simp) ?_
  refine AllReadyH.cons (o := { dst := some 14, op := Op.call { callee := Callee.value (Operand.func 58), args := #[Operand.tmp 13, Operand.const (Value.int IntKind.i64 1)], argTypes := #[25, 3] }, type := 3, pos := "ref.go:141", after := #[{ on := 4, ground := Ground.data }], guard := none }) rfl (fun K hK => ?_) (AllReadyH.cons (o := { dst := some 4, op := Op.alloc 38, type := 0, pos := "ref.go:141", after := #[], guard := none }) rfl (fun K hK => ?_) AllReadyH.nil)
  · go_simp
    refine (H1.out wx.drew BD.out).mono ?_; rintro e w1 ⟨rfl, hb⟩; have HB1 : Hid (Below wx.heap.size wx w1) := Lib.hid ((BD.out).trans (hb.mono (BD.out).size)); have GC1 : Hid (GB w (w1.alloc (.cells #[.int .i64 0, .int .i64 0, .int .i64 0, .slice none 0 0] 38)) w1.heap.size 0 0 0 (.slice none 0 0)) := Lib.hid (gb_new (B0.out.on HB1.out) (X0.out.trans (HB1.out.mono X0.out.size)) 0 0 0 _); clear hb; simp only []
    refine hK.out _ _ HB1.out (fun hHeld => ?_)
    clear hK K
    (try simp only [Act.put, List.setIfInBounds_toArray, List.set_cons_zero, List.set_cons_succ])
    refine wpAnyH_ready (rs := [7, 9]) (by kernel_rfl) (by simp) ?_
    refine AllReadyH.cons (o := { dst := some 16, op := Op.call { callee := Callee.value (Operand.func 58), args := #[Operand.tmp 15, Operand.const (Value.int IntKind.i64 3)], argTypes := #[25, 3] }, type := 3, pos := "ref.go:141", after := #[{ on := 6, ground := Ground.data }, { on := 5, ground := Ground.chain }], guard := none }) rfl (fun K hK => ?_) (AllReadyH.cons (o := { dst := some 4, op := Op.alloc 38, type := 0, pos := "ref.go:141", after := #[], guard := none }) rfl (fun K hK => ?_) AllReadyH.nil)
    · go_simp
      refine (H3.out w1 HB1.out).mono ?_; rintro e w2 ⟨rfl, hb⟩; have HB2 : Hid (Below wx.heap.size wx w2) := Lib.hid ((HB1.out).trans (hb.mono (HB1.out).size)); have GN := Lib.hid (gb_new (B0.out.on HB2.out) (X0.out.trans (HB2.out.mono X0.out.size)) 0 0 0 (.slice none 0 0)); have GF : Hid (GB w (w2.alloc (.cells #[.int .i64 (y : Int), .int .i64 s, .int .i64 c, .slice none 0 0] 38)) w2.heap.size (y : Int) s c (.slice none 0 0)) := Lib.hid (gb_new (B0.out.on HB2.out) (X0.out.trans (HB2.out.mono X0.out.size)) _ _ _ _); clear hb; simp only []
      refine hK.out _ _ HB2.out (fun hHeld => ?_)
      clear hK K
      (try simp only [Act.put, List.setIfInBounds_toArray, List.set_cons_zero, List.set_cons_succ])
      refine wpAnyH_take (i := 8) (oi := { dst := some 17, op := Op.build 38 #[(0, Operand.tmp 12), (1, Operand.tmp 14), (2, Operand.tmp 16)], type := 38, pos := "ref.go:141", after := #[{ on := 3, ground := Ground.data }, { on := 5, ground := Ground.data }, { on := 7, ground := Ground.data }], guard := none }) (v := ?_) rfl (by kernel_rfl) (by kernel_rfl) (by kernel_rfl) (fun _ _ _ h => h) (Or.inl ⟨by rfl, ?_⟩) hHeld ?_
      rotate_left
      · (intro W hSw; (try dsimp only at hSw); go_simp; try with_reducible rfl)
      (try simp only [Act.put, List.setIfInBounds_toArray, List.set_cons_zero, List.set_cons_succ])
      refine wpAnyH_ready (rs := [9]) (by kernel_rfl) (by simp) ?_
      refine AllReadyH.cons (o := { dst := some 4, op := Op.alloc 38, type := 0, pos := "ref.go:141", after := #[], guard := none }) rfl (fun K hK => ?_) AllReadyH.nil
      go_simp
      refine hK.out _ _ (HB2.out.trans ((below_new w2 _).mono HB2.out.size)) (fun hHeld => ?_)
      clear hK K
      (try simp only [Act.put, List.setIfInBounds_toArray, List.set_cons_zero, List.set_cons_succ])
      refine wpAnyH_ready (rs := [10]) (by kernel_rfl) (by simp) ?_
      refine AllReadyH.cons (o := { dst := none, op := Op.store 38 (Operand.tmp 4) (Operand.tmp 17), type := 0, pos := "ref.go:141", after := #[{ on := 9, ground := Ground.data }, { on := 8, ground := Ground.data }, { on := 7, ground := Ground.chain }, { on := 0, ground := Ground.phase }, { on := 1, ground := Ground.phase }, { on := 2, ground := Ground.phase }, { on := 3, ground := Ground.phase }, { on := 4, ground := Ground.phase }, { on := 5, ground := Ground.phase }, { on := 6, ground := Ground.phase }, { on := 7, ground := Ground.phase }, { on := 8, ground := Ground.phase }, { on := 9, ground := Ground.phase }], guard := none }) rfl (fun K hK => ?_) AllReadyH.nil
      go_simp
      refine hK.out _ _ (HB2.out.trans ((below_new w2 _).mono HB2.out.size)) (fun hHeld => ?_)
      clear hK K
      (try simp only [Act.put, List.setIfInBounds_toArray, List.set_cons_zero, List.set_cons_succ])
      refine wpAnyH_done (by kernel_rfl) ?_ _
      generalize (w2.alloc _) = W at GF ⊢
      clear hHeld
      (try clear d0 d1 d2 d3 g0 g1 g2 g3)
      obtain ⟨d0, d1, d2, d3⟩ := GF.out.1.cells
      obtain ⟨r0, r1, r2, r3⟩ := GF.out.2.1.cells
      have q0 := GF.out.2.1.frozen 0
      have q1 := GF.out.2.1.frozen 1
      have q2 := GF.out.2.1.frozen 2
      have q3 := GF.out.2.1.frozen 3
      have HF : Hid (BoxQ (fin4 W w.heap.size (y : Int) s c (.slice none 0 0)) w.heap.size (y : Int) s c (.slice none 0 0) ∧ GuessOk w ⟨(y : Int), s, c, []⟩ (.returned (.tuple #[.agg #[.int .i64 (y : Int), .int .i64 s, .int .i64 c, .slice none 0 0], .bool true])) (fin4 W w.heap.size (y : Int) s c (.slice none 0 0))) := Lib.hid ⟨fin4q_box GF.out.2.1 _ _ _ _, _, rfl, World.ownsRow_nil _ _ _ _, fin4q_below GF.out.2.2.1 (Nat.le_refl _) _ _ _ _⟩
      unfold fin4 at HF
      go_wp2
      clear d0 d1 d2 d3 r0 r1 r2 r3 q0 q1 q2 q3
      generalize (World.setCell (World.setCell (World.setCell (World.setCell W _ _) _ _) _ _) _ _) = W2 at HF ⊢
      obtain ⟨r0, r1, r2, r3⟩ := HF.out.1.cells
      refine bodyPost_ret (v := .tuple #[.agg #[.int .i64 (y : Int), .int .i64 s, .int .i64 c, .slice none 0 0], .bool true]) ?_ rfl HF.out.2
      simp [results, Tryd.results34, go_sem, r0, r1, r2, r3]
    · go_simp
      refine hK.out _ _ (HB1.out.trans ((below_new w1 _).mono HB1.out.size)) (fun hHeld => ?_)
      clear hK K
      (try simp only [Act.put, List.setIfInBounds_toArray, List.set_cons_zero, List.set_cons_succ])
      refine wpAnyH_ready (rs := [7]) (by kernel_rfl) (by simp) ?_
      refine AllReadyH.cons (o := { dst := some 16, op := Op.call { callee := Callee.value (Operand.func 58), args := #[Operand.tmp 15, Operand.const (Value.int IntKind.i64 3)], argTypes := #[25, 3] }, type := 3, pos := "ref.go:141", after := #[{ on := 6, ground := Ground.data }, { on := 5, ground := Ground.chain }], guard := none }) rfl (fun K hK => ?_) AllReadyH.nil
      go_simp
      refine (H3.out _ (HB1.out.trans ((below_new w1 _).mono HB1.out.size))).mono ?_; rintro e w2 ⟨rfl, hb⟩; have HB2 : Hid (Below wx.heap.size wx w2) := Lib.hid (((HB1.out.trans ((below_new w1 _).mono HB1.out.size))).trans (hb.mono ((HB1.out.trans ((below_new w1 _).mono HB1.out.size))).size)); have GA2 := Lib.hid (GC1.out.on hb); obtain ⟨d0, d1, d2, d3⟩ := GA2.out.1.cells; have g0 := GA2.out.1.frozen 0; have g1 := GA2.out.1.frozen 1; have g2 := GA2.out.1.frozen 2; have g3 := GA2.out.1.frozen 3; have GF := Lib.hid (GA2.out.set (y : Int) s c (.slice none 0 0)); unfold fin4 at GF; clear hb; simp only []
      refine hK.out _ _ HB2.out (fun hHeld => ?_)
      clear hK K
      (try simp only [Act.put, List.setIfInBounds_toArray, List.set_cons_zero, List.set_cons_succ])
      refine wpAnyH_take (i := 8) (oi := { dst := some 17, op := Op.build 38 #[(0, Operand.tmp 12), (1, Operand.tmp 14), (2, Operand.tmp 16)], type := 38, pos := "ref.go:141", after := #[{ on := 3, ground := Ground.data }, { on := 5, ground := Ground.data }, { on := 7, ground := Ground.data }], guard := none }) (v := ?_) rfl (by kernel_rfl) (by kernel_rfl) (by kernel_rfl) (fun _ _ _ h => h) (Or.inl ⟨by rfl, ?_⟩) hHeld ?_
      rotate_left
      · (intro W hSw; (try dsimp only at hSw); go_simp; try with_reducible rfl)
      (try simp only [Act.put, List.setIfInBounds_toArray, List.set_cons_zero, List.set_cons_succ])
      refine wpAnyH_ready (rs := [10]) (by kernel_rfl) (by simp) ?_
      refine AllReadyH.cons (o := { dst := none, op := Op.store 38 (Operand.tmp 4) (Operand.tmp 17), type := 0, pos := "ref.go:141", after := #[{ on := 9, ground := Ground.data }, { on := 8, ground := Ground.data }, { on := 7, ground := Ground.chain }, { on := 0, ground := Ground.phase }, { on := 1, ground := Ground.phase }, { on := 2, ground := Ground.phase }, { on := 3, ground := Ground.phase }, { on := 4, ground := Ground.phase }, { on := 5, ground := Ground.phase }, { on := 6, ground := Ground.phase }, { on := 7, ground := Ground.phase }, { on := 8, ground := Ground.phase }, { on := 9, ground := Ground.phase }], guard := none }) rfl (fun K hK => ?_) AllReadyH.nil
      go_simp
      refine hK.out _ _ ((((HB2.out.setCell HB1.out.size _).setCell HB1.out.size _).setCell HB1.out.size _).setCell HB1.out.size _) (fun hHeld => ?_)
      clear hK K
      (try simp only [Act.put, List.setIfInBounds_toArray, List.set_cons_zero, List.set_cons_succ])
      refine wpAnyH_done (by kernel_rfl) ?_ _
      generalize (World.setCell (World.setCell (World.setCell (World.setCell w2 _ _) _ _) _ _) _ _) = W at GF ⊢
      clear hHeld
      (try clear d0 d1 d2 d3 g0 g1 g2 g3)
      obtain ⟨d0, d1, d2, d3⟩ := GF.out.1.cells
      obtain ⟨r0, r1, r2, r3⟩ := GF.out.2.1.cells
      have q0 := GF.out.2.1.frozen 0
      have q1 := GF.out.2.1.frozen 1
      have q2 := GF.out.2.1.frozen 2
      have q3 := GF.out.2.1.frozen 3
      have HF : Hid (BoxQ (fin4 W w.heap.size (y : Int) s c (.slice none 0 0)) w.heap.size (y : Int) s c (.slice none 0 0) ∧ GuessOk w ⟨(y : Int), s, c, []⟩ (.returned (.tuple #[.agg #[.int .i64 (y : Int), .int .i64 s, .int .i64 c, .slice none 0 0], .bool true])) (fin4 W w.heap.size (y : Int) s c (.slice none 0 0))) := Lib.hid ⟨fin4q_box GF.out.2.1 _ _ _ _, _, rfl, World.ownsRow_nil _ _ _ _, fin4q_below GF.out.2.2.1 (Nat.le_refl _) _ _ _ _⟩
      unfold fin4 at HF
      go_wp2
      clear d0 d1 d2 d3 r0 r1 r2 r3 q0 q1 q2 q3
      generalize (World.setCell (World.setCell (World.setCell (World.setCell W _ _) _ _) _ _) _ _) = W2 at HF ⊢
      obtain ⟨r0, r1, r2, r3⟩ := HF.out.1.cells
      refine bodyPost_ret (v := .tuple #[.agg #[.int .i64 (y : Int), .int .i64 s, .int .i64 c, .slice none 0 0], .bool true]) ?_ rfl HF.out.2
      simp [results, Tryd.results34, go_sem, r0, r1, r2, r3]
  · go_simp
    refine hK.out _ _ BA.out (fun hHeld => ?_)
    clear hK K
    (try simp only [Act.put, List.setIfInBounds_toArray, List.set_cons_zero, List.set_cons_succ])
    refine wpAnyH_ready (rs := [5]) (by kernel_rfl) (by simp) ?_
    refine AllReadyH.cons (o := { dst := some 14, op := Op.call { callee := Callee.value (Operand.func 58), args := #[Operand.tmp 13, Operand.const (Value.int IntKind.i64 1)], argTypes := #[25, 3] }, type := 3, pos := "ref.go:141", after := #[{ on := 4, ground := Ground.data }], guard := none }) rfl (fun K hK => ?_) AllReadyH.nil
    go_simp
    refine (H1.out _ BA.out).mono ?_; rintro e w1 ⟨rfl, hb⟩; have HB1 : Hid (Below wx.heap.size wx w1) := Lib.hid ((BA.out).trans (hb.mono (BA.out).size)); have GA1 := Lib.hid (GA.out.on hb); clear hb; simp only []
    refine hK.out _ _ HB1.out (fun hHeld => ?_)
    clear hK K
    (try simp only [Act.put, List.setIfInBounds_toArray, List.set_cons_zero, List.set_cons_succ])
    refine wpAnyH_ready (rs := [7]) (by kernel_rfl) (by simp) ?_
    refine AllReadyH.cons (o := { dst := some 16, op := Op.call { callee := Callee.value (Operand.func 58), args := #[Operand.tmp 15, Operand.const (Value.int IntKind.i64 3)], argTypes := #[25, 3] }, type := 3, pos := "ref.go:141", after := #[{ on := 6, ground := Ground.data }, { on := 5, ground := Ground.chain }], guard := none }) rfl (fun K hK => ?_) AllReadyH.nil
    go_simp
    refine (H3.out w1 HB1.out).mono ?_; rintro e w2 ⟨rfl, hb⟩; have HB2 : Hid (Below wx.heap.size wx w2) := Lib.hid ((HB1.out).trans (hb.mono (HB1.out).size)); have GA2 := Lib.hid (GA1.out.on hb); obtain ⟨d0, d1, d2, d3⟩ := GA2.out.1.cells; have g0 := GA2.out.1.frozen 0; have g1 := GA2.out.1.frozen 1; have g2 := GA2.out.1.frozen 2; have g3 := GA2.out.1.frozen 3; have GF := Lib.hid (GA2.out.set (y : Int) s c (.slice none 0 0)); unfold fin4 at GF; clear hb; simp only []
    refine hK.out _ _ HB2.out (fun hHeld => ?_)
    clear hK K
    (try simp only [Act.put, List.setIfInBounds_toArray, List.set_cons_zero, List.set_cons_succ])
    refine wpAnyH_take (i := 8) (oi := { dst := some 17, op := Op.build 38 #[(0, Operand.tmp 12), (1, Operand.tmp 14), (2, Operand.tmp 16)], type := 38, pos := "ref.go:141", after := #[{ on := 3, ground := Ground.data }, { on := 5, ground := Ground.data }, { on := 7, ground := Ground.data }], guard := none }) (v := ?_) rfl (by kernel_rfl) (by kernel_rfl) (by kernel_rfl) (fun _ _ _ h => h) (Or.inl ⟨by rfl, ?_⟩) hHeld ?_
    rotate_left
    · (intro W hSw; (try dsimp only at hSw); go_simp; try with_reducible rfl)
    (try simp only [Act.put, List.setIfInBounds_toArray, List.set_cons_zero, List.set_cons_succ])
    refine wpAnyH_ready (rs := [10]) (by kernel_rfl) (by simp) ?_
    refine AllReadyH.cons (o := { dst := none, op := Op.store 38 (Operand.tmp 4) (Operand.tmp 17), type := 0, pos := "ref.go:141", after := #[{ on := 9, ground := Ground.data }, { on := 8, ground := Ground.data }, { on := 7, ground := Ground.chain }, { on := 0, ground := Ground.phase }, { on := 1, ground := Ground.phase }, { on := 2, ground := Ground.phase }, { on := 3, ground := Ground.phase }, { on := 4, ground := Ground.phase }, { on := 5, ground := Ground.phase }, { on := 6, ground := Ground.phase }, { on := 7, ground := Ground.phase }, { on := 8, ground := Ground.phase }, { on := 9, ground := Ground.phase }], guard := none }) rfl (fun K hK => ?_) AllReadyH.nil
    go_simp
    refine hK.out _ _ ((((HB2.out.setCell (Nat.le_refl _) _).setCell (Nat.le_refl _) _).setCell (Nat.le_refl _) _).setCell (Nat.le_refl _) _) (fun hHeld => ?_)
    clear hK K
    (try simp only [Act.put, List.setIfInBounds_toArray, List.set_cons_zero, List.set_cons_succ])
    refine wpAnyH_done (by kernel_rfl) ?_ _
    generalize (World.setCell (World.setCell (World.setCell (World.setCell w2 _ _) _ _) _ _) _ _) = W at GF ⊢
    clear hHeld
    (try clear d0 d1 d2 d3 g0 g1 g2 g3)
    obtain ⟨d0, d1, d2, d3⟩ := GF.out.1.cells
    obtain ⟨r0, r1, r2, r3⟩ := GF.out.2.1.cells
    have q0 := GF.out.2.1.frozen 0
    have q1 := GF.out.2.1.frozen 1
    have q2 := GF.out.2.1.frozen 2
    have q3 := GF.out.2.1.frozen 3
    have HF : Hid (BoxQ (fin4 W w.heap.size (y : Int) s c (.slice none 0 0)) w.heap.size (y : Int) s c (.slice none 0 0) ∧ GuessOk w ⟨(y : Int), s, c, []⟩ (.returned (.tuple #[.agg #[.int .i64 (y : Int), .int .i64 s, .int .i64 c, .slice none 0 0], .bool true])) (fin4 W w.heap.size (y : Int) s c (.slice none 0 0))) := Lib.hid ⟨fin4q_box GF.out.2.1 _ _ _ _, _, rfl, World.ownsRow_nil _ _ _ _, fin4q_below GF.out.2.2.1 (Nat.le_refl _) _ _ _ _⟩
    unfold fin4 at HF
    go_wp2
    clear d0 d1 d2 d3 r0 r1 r2 r3 q0 q1 q2 q3
    generalize (World.setCell (World.setCell (World.setCell (World.setCell W _ _) _ _) _ _) _ _) = W2 at HF ⊢
    obtain ⟨r0, r1, r2, r3⟩ := HF.out.1.cells
    refine bodyPost_ret (v := .tuple #[.agg #[.int .i64 (y : Int), .int .i64 s, .int .i64 c, .slice none 0 0], .bool true]) ?_ rfl HF.out.2
    simp [results, Tryd.results34, go_sem, r0, r1, r2, r3]


end Go.Proofs.YtngfaailbkadfaaDoor
/- yardref7.guess: the ways of the functions 5 and 6. -/
namespace Go.Proofs.YtngfaailbkadfaaDoor
open Go.RowKit Go.Extern.Stop Go.Stop Go.Extern

theorem GB.set32 {w W : World} {k : Nat} {f0 s0 c0 : Int} {v0 : Value} (h : GB w W k f0 s0 c0 v0) (c : Int) (v : Value) : GB w ((W.setCell ⟨k, 3, none⟩ v).setCell ⟨k, 2, none⟩ (.int .i64 c)) k f0 s0 c v := by
  have o : Off (fun j => j = k) W ((W.setCell ⟨k, 3, none⟩ v).setCell ⟨k, 2, none⟩ (.int .i64 c)) := Off.trans (Off.set (fun j => j = k) W ⟨k, 3, none⟩ _ rfl) (Off.set (fun j => j = k) _ ⟨k, 2, none⟩ _ rfl)
  refine ⟨?_, (o.block w.heap.size (lt_heap h.2.1) (by have := h.2.2.2; omega)).trans h.2.1, (h.2.2.1.setCell (Nat.le_of_lt h.2.2.2) _).setCell (Nat.le_of_lt h.2.2.2) _, h.2.2.2⟩
  unfold BoxQ
  rw [heap_set _ _ _ _ _ _ _ (heap_set _ _ _ _ _ _ _ h.1)]
  rfl
theorem row_no3 {w : World} {base : Nat} {v : Value} {n : Nat} {xs : List Value} (h : w.ownsRow base 3 1 v n xs) {r : Nat} {cs : Array Value} {t : TypeId} {fr : Nat × Nat} (hr : w.heap[r]? = some (.cells cs t fr)) (ht : t ≠ 3) : v.ownBlock ≠ some r := fun e => by
  rcases h.2 with ⟨hv, _⟩ | ⟨g, cap, cur, hv, _, hh, _⟩
  · rw [hv] at e; cases e
  · rw [hv] at e
    have : g = r := by simpa [Value.ownBlock] using e
    rw [this, hr] at hh
    simp only [Option.some.injEq, Obj.cells.injEq] at hh
    exact ht hh.2.1
theorem GB.row32 {w W : World} {k n : Nat} {f0 s0 c0 : Int} {v0 u : Value} {l : List Value} (h : GB w W k f0 s0 c0 v0) (c : Int) (v : Value) (ho : W.ownsRow w.heap.size 3 1 u n l) : ((W.setCell ⟨k, 3, none⟩ v).setCell ⟨k, 2, none⟩ (.int .i64 c)).ownsRow w.heap.size 3 1 u n l :=
  ownsRow_off ho (Off.trans (Off.set (fun j => j = k) W ⟨k, 3, none⟩ _ rfl) (Off.set (fun j => j = k) _ ⟨k, 2, none⟩ _ rfl)) (fun j e s => row_no3 ho h.1 (by decide) (by rw [e, s]))

set_option maxRecDepth 100000 in
set_option maxHeartbeats 4000000 in
theorem guess_reg (v : Value) (d : List UInt8) (w : World) (hv : BytesAt w v d) (hl : d.length ≤ 100000) (h5 : 5 ≤ d.length) (hf : (d.getD 0 0).toNat = 6) : Calls Tryd.prog 34 #[v] w (GuessOk w ⟨((d.getD 0 0).toNat : Int), atN d 1, 1, [atN d 3]⟩) := by
  have HV := Lib.hid hv
  have HL := Lib.hid hl
  obtain ⟨wx, hwx⟩ : ∃ wx, wx = w.alloc (.cells #[.int .i64 0, .int .i64 0, .int .i64 0, .slice none 0 0] 38) := ⟨_, rfl⟩
  have X0 : Hid (Below w.heap.size w wx) := Lib.hid (by rw [hwx]; exact below_new w _)
  have B0 : Hid (BoxQ wx w.heap.size 0 0 0 (.slice none 0 0)) := Lib.hid (by rw [hwx]; exact heap_alloc_new w _)
  have V0 := Lib.hid (HV.out.on X0.out)
  obtain ⟨b, off, cap, rfl, c0⟩ := bytes_getD V0.out 0 (by omega)
  have hy := getD_lt d 0
  have H1 : Hid (∀ W : World, Below wx.heap.size wx W → Calls Tryd.prog 58 #[.slice (some ⟨b, off, none⟩) d.length cap, .int .i64 1] W fun e w' => e = .returned (.int .i64 (atN d 1)) ∧ Below W.heap.size W w') := Lib.hid (fun W h => at_any _ d 1 W (V0.out.on h) (by omega) (by have := HL.out; omega))
  have H3 : Hid (∀ W : World, Below wx.heap.size wx W → Calls Tryd.prog 58 #[.slice (some ⟨b, off, none⟩) d.length cap, .int .i64 3] W fun e w' => e = .returned (.int .i64 (atN d 3)) ∧ Below W.heap.size W w') := Lib.hid (fun W h => at_any _ d 3 W (V0.out.on h) (by omega) (by have := HL.out; omega))
  have l5 : ¬ (d.length : Int) < 5 := by omega
  have l6 : (5 : Int) ≤ (d.length : Int) := by omega
  have l7 : (0 : Int) < (d.length : Int) := by omega
  have l8 : 0 < d.length := by omega
  have w0 : IntKind.i64.wrap ((d.getD 0 0).toNat : Int) = ((d.getD 0 0).toNat : Int) := by rw [IntKind.wrap_i64]; omega
  rw [Nat.add_zero] at c0
  have c0' := (V0.out.on (Below.refl _ wx).drew)
  clear c0'
  have BD : Hid (Below wx.heap.size wx wx.drew) := Lib.hid (Below.refl _ wx).drew
  obtain ⟨WA, hWA⟩ : ∃ x, x = wx.drew.alloc (.cells #[.int .i64 0, .int .i64 0, .int .i64 0, .slice none 0 0] 38) := ⟨_, rfl⟩
  have BA : Hid (Below wx.heap.size wx (wx.drew.alloc (.cells #[.int .i64 0, .int .i64 0, .int .i64 0, .slice none 0 0] 38))) := Lib.hid (BD.out.trans (below_new wx.drew _))
  have GA : Hid (GB w (wx.drew.alloc (.cells #[.int .i64 0, .int .i64 0, .int .i64 0, .slice none 0 0] 38)) wx.heap.size 0 0 0 (.slice none 0 0)) := Lib.hid (gb_new (B0.out.on BD.out) (X0.out.trans (BD.out.mono X0.out.size)) 0 0 0 _)
  clear hWA WA
  have hcA := (BA.out.cell (lt_cell c0)).trans c0
  have n5 : (((d.getD 0 0).toNat : Int) == 5) = false := by rw [hf]; rfl
  have n6 : (((d.getD 0 0).toNat : Int) == 6) = true := by rw [hf]; rfl
  clear hf
  have H3w : Hid (∀ W : World, Below w.heap.size w W → Calls Tryd.prog 58 #[.slice (some ⟨b, off, none⟩) d.length cap, .int .i64 3] W fun e w' => e = .returned (.int .i64 (atN d 3)) ∧ Below W.heap.size W w') := Lib.hid (fun W h => at_any _ d 3 W (HV.out.on h) (by omega) (by have := HL.out; omega))
  have HC := Lib.hid (atN_bounds d 3)
  generalize (d.getD 0 0).toNat = y at *
  generalize atN d 1 = s at *
  generalize atN d 3 = c at *
  clear hv hl h5
  go_enter Tryd.func34, Tryd.ntmps34
  go_wp2_with fail
  rw [← hwx]
  clear hwx
  refine wp_region_held_drew (S := fun w' => Below wx.heap.size wx w') (by kernel_rfl) BD.out (fun hHeld => ?_)
  refine wpAnyH_take (i := 0) (oi := { dst := some 9, op := Op.move (Operand.tmp 0), type := 25, pos := "ref.go:141", after := #[], guard := none }) (v := ?_) rfl (by kernel_rfl) (by kernel_rfl) (by kernel_rfl) (fun _ _ _ h => h) (Or.inl ⟨by rfl, ?_⟩) hHeld ?_
  rotate_left
  · (intro W hSw; (try dsimp only at hSw); go_simp; try with_reducible rfl)
  (try simp only [Act.put, List.setIfInBounds_toArray, List.set_cons_zero, List.set_cons_succ])
  refine wpAnyH_take (i := 1) (oi := { dst := some 10, op := Op.indexAddr 25 (Operand.tmp 9) (Operand.const (Value.int IntKind.i64 0)), type := 0, pos := "ref.go:141", after := #[{ on := 0, ground := Ground.data }], guard := none }) (v := ?_) rfl (by kernel_rfl) (by kernel_rfl) (by kernel_rfl) (fun _ _ _ h => h) (Or.inl ⟨by rfl, ?_⟩) hHeld ?_
  rotate_left
  · (intro W hSw; (try dsimp only at hSw); go_simp; try with_reducible rfl)
  (try simp only [Act.put, List.setIfInBounds_toArray, List.set_cons_zero, List.set_cons_succ])
  refine wpAnyH_take (i := 2) (oi := { dst := some 11, op := Op.load 5 (Operand.tmp 10), type := 5, pos := "ref.go:141", after := #[{ on := 1, ground := Ground.data }], guard := none }) (v := ?_) rfl (by kernel_rfl) (by kernel_rfl) (by kernel_rfl) (fun _ _ _ h => h) (Or.inl ⟨by rfl, ?_⟩) hHeld ?_
  rotate_left
  · (intro W hSw; (try dsimp only at hSw); have hcx := (hSw.cell (lt_cell c0)).trans c0; go_simp; try with_reducible rfl)
  (try simp only [Act.put, List.setIfInBounds_toArray, List.set_cons_zero, List.set_cons_succ])
  refine wpAnyH_take (i := 3) (oi := { dst := some 12, op := Op.convert 5 3 (Operand.tmp 11), type := 3, pos := "ref.go:141", after := #[{ on := 2, ground := Ground.data }], guard := none }) (v := ?_) rfl (by kernel_rfl) (by kernel_rfl) (by kernel_rfl) (fun _ _ _ h => h) (Or.inl ⟨by rfl, ?_⟩) hHeld ?_
  rotate_left
  · (intro W hSw; (try dsimp only at hSw); go_simp; try with_reducible rfl)
  (try simp only [Act.put, List.setIfInBounds_toArray, List.set_cons_zero, List.set_cons_succ])
  refine wpAnyH_take (i := 4) (oi := { dst := some 13, op := Op.move (Operand.tmp 0), type := 25, pos := "ref.go:141", after := #[], guard := none }) (v := ?_) rfl (by kernel_rfl) (by kernel_rfl) (by kernel_rfl) (fun _ _ _ h => h) (Or.inl ⟨by rfl, ?_⟩) hHeld ?_
  rotate_left
  · (intro W hSw; (try dsimp only at hSw); go_simp; try with_reducible rfl)
  (try simp only [Act.put, List.setIfInBounds_toArray, List.set_cons_zero, List.set_cons_succ])
  refine wpAnyH_take (i := 6) (oi := { dst := some 15, op := Op.move (Operand.tmp 0), type := 25, pos := "ref.go:141", after := #[], guard := none }) (v := ?_) rfl (by kernel_rfl) (by kernel_rfl) (by kernel_rfl) (fun _ _ _ h => h) (Or.inl ⟨by rfl, ?_⟩) hHeld ?_
  rotate_left
  · (intro W hSw; (try dsimp only at hSw); go_simp; try with_reducible rfl)
  (try simp only [Act.put, List.setIfInBounds_toArray, List.set_cons_zero, List.set_cons_succ])
  refine wpAnyH_ready (rs := [5, 9]) (by kernel_rfl) (by simp) ?_
  refine AllReadyH.cons (o := { dst := some 14, op := Op.call { callee := Callee.value (Operand.func 58), args := #[Operand.tmp 13, Operand.const (Value.int IntKind.i64 1)], argTypes := #[25, 3] }, type := 3, pos := "ref.go:141", after := #[{ on := 4, ground := Ground.data }], guard := none }) rfl (fun K hK => ?_) (AllReadyH.cons (o := { dst := some 4, op := Op.alloc 38, type := 0, pos := "ref.go:141", after := #[], guard := none }) rfl (fun K hK => ?_) AllReadyH.nil)
  · go_simp
    refine (H1.out wx.drew BD.out).mono ?_; rintro e w1 ⟨rfl, hb⟩; have HB1 : Hid (Below wx.heap.size wx w1) := Lib.hid ((BD.out).trans (hb.mono (BD.out).size)); have GC1 : Hid (GB w (w1.alloc (.cells #[.int .i64 0, .int .i64 0, .int .i64 0, .slice none 0 0] 38)) w1.heap.size 0 0 0 (.slice none 0 0)) := Lib.hid (gb_new (B0.out.on HB1.out) (X0.out.trans (HB1.out.mono X0.out.size)) 0 0 0 _); clear hb; simp only []
    refine hK.out _ _ HB1.out (fun hHeld => ?_)
    clear hK K
    (try simp only [Act.put, List.setIfInBounds_toArray, List.set_cons_zero, List.set_cons_succ])
    refine wpAnyH_ready (rs := [7, 9]) (by kernel_rfl) (by simp) ?_
    refine AllReadyH.cons (o := { dst := some 16, op := Op.call { callee := Callee.value (Operand.func 58), args := #[Operand.tmp 15, Operand.const (Value.int IntKind.i64 3)], argTypes := #[25, 3] }, type := 3, pos := "ref.go:141", after := #[{ on := 6, ground := Ground.data }, { on := 5, ground := Ground.chain }], guard := none }) rfl (fun K hK => ?_) (AllReadyH.cons (o := { dst := some 4, op := Op.alloc 38, type := 0, pos := "ref.go:141", after := #[], guard := none }) rfl (fun K hK => ?_) AllReadyH.nil)
    · go_simp
      refine (H3.out w1 HB1.out).mono ?_; rintro e w2 ⟨rfl, hb⟩; have HB2 : Hid (Below wx.heap.size wx w2) := Lib.hid ((HB1.out).trans (hb.mono (HB1.out).size)); have GN := Lib.hid (gb_new (B0.out.on HB2.out) (X0.out.trans (HB2.out.mono X0.out.size)) 0 0 0 (.slice none 0 0)); have GF : Hid (GB w (w2.alloc (.cells #[.int .i64 (y : Int), .int .i64 s, .int .i64 c, .slice none 0 0] 38)) w2.heap.size (y : Int) s c (.slice none 0 0)) := Lib.hid (gb_new (B0.out.on HB2.out) (X0.out.trans (HB2.out.mono X0.out.size)) _ _ _ _); clear hb; simp only []
      refine hK.out _ _ HB2.out (fun hHeld => ?_)
      clear hK K
      (try simp only [Act.put, List.setIfInBounds_toArray, List.set_cons_zero, List.set_cons_succ])
      refine wpAnyH_take (i := 8) (oi := { dst := some 17, op := Op.build 38 #[(0, Operand.tmp 12), (1, Operand.tmp 14), (2, Operand.tmp 16)], type := 38, pos := "ref.go:141", after := #[{ on := 3, ground := Ground.data }, { on := 5, ground := Ground.data }, { on := 7, ground := Ground.data }], guard := none }) (v := ?_) rfl (by kernel_rfl) (by kernel_rfl) (by kernel_rfl) (fun _ _ _ h => h) (Or.inl ⟨by rfl, ?_⟩) hHeld ?_
      rotate_left
      · (intro W hSw; (try dsimp only at hSw); go_simp; try with_reducible rfl)
      (try simp only [Act.put, List.setIfInBounds_toArray, List.set_cons_zero, List.set_cons_succ])
      refine wpAnyH_ready (rs := [9]) (by kernel_rfl) (by simp) ?_
      refine AllReadyH.cons (o := { dst := some 4, op := Op.alloc 38, type := 0, pos := "ref.go:141", after := #[], guard := none }) rfl (fun K hK => ?_) AllReadyH.nil
      go_simp
      refine hK.out _ _ (HB2.out.trans ((below_new w2 _).mono HB2.out.size)) (fun hHeld => ?_)
      clear hK K
      (try simp only [Act.put, List.setIfInBounds_toArray, List.set_cons_zero, List.set_cons_succ])
      refine wpAnyH_ready (rs := [10]) (by kernel_rfl) (by simp) ?_
      refine AllReadyH.cons (o := { dst := none, op := Op.store 38 (Operand.tmp 4) (Operand.tmp 17), type := 0, pos := "ref.go:141", after := #[{ on := 9, ground := Ground.data }, { on := 8, ground := Ground.data }, { on := 7, ground := Ground.chain }, { on := 0, ground := Ground.phase }, { on := 1, ground := Ground.phase }, { on := 2, ground := Ground.phase }, { on := 3, ground := Ground.phase }, { on := 4, ground := Ground.phase }, { on := 5, ground := Ground.phase }, { on := 6, ground := Ground.phase }, { on := 7, ground := Ground.phase }, { on := 8, ground := Ground.phase }, { on := 9, ground := Ground.phase }], guard := none }) rfl (fun K hK => ?_) AllReadyH.nil
      go_simp
      refine hK.out _ _ (HB2.out.trans ((below_new w2 _).mono HB2.out.size)) (fun hHeld => ?_)
      clear hK K
      (try simp only [Act.put, List.setIfInBounds_toArray, List.set_cons_zero, List.set_cons_succ])
      refine wpAnyH_done (by kernel_rfl) ?_ _
      generalize (w2.alloc _) = W at GF ⊢
      clear hHeld
      generalize w2.heap.size = k at GF ⊢
      (try clear d0 d1 d2 d3 g0 g1 g2 g3)
      obtain ⟨d0, d1, d2, d3⟩ := GF.out.1.cells
      go_wp2_with fail
      refine (H3w.out W GF.out.2.2.1).mono ?_
      rintro e w3 ⟨rfl, hb⟩
      have G3 := Lib.hid (GF.out.on hb)
      have G4 := Lib.hid (G3.out.on (below_new w3 (.cells #[.int .i64 (c)] 3)))
      have O4 : Hid ((w3.alloc (.cells #[.int .i64 (c)] 3)).ownsRow w.heap.size 3 1 (.slice (some ⟨w3.heap.size, 0, none⟩) 1 1) 1 [.int .i64 (c)]) := Lib.hid (World.ownsRow_lit w3 #[.int .i64 (c)] 1 G3.out.2.2.1.size (by unfold maxLen; omega) (by simp))
      have G5 := Lib.hid (G4.out.set32 1 (.slice (some ⟨w3.heap.size, 0, none⟩) 1 1))
      have O5 := Lib.hid (G4.out.row32 1 (.slice (some ⟨w3.heap.size, 0, none⟩) 1 1) O4.out)
      clear hb d0 d1 d2 d3
      obtain ⟨d0, d1, d2, d3⟩ := G4.out.1.cells
      have g2 := G4.out.1.frozen 2
      have g3 := G4.out.1.frozen 3
      obtain ⟨e0, e1, e2, e3⟩ := G5.out.1.cells
      obtain ⟨r0, r1, r2, r3⟩ := G5.out.2.1.cells
      have q0 := G5.out.2.1.frozen 0
      have q1 := G5.out.2.1.frozen 1
      have q2 := G5.out.2.1.frozen 2
      have q3 := G5.out.2.1.frozen 3
      have HF : Hid (BoxQ (fin4 (((w3.alloc (.cells #[.int .i64 (c)] 3)).setCell ⟨k, 3, none⟩ (.slice (some ⟨w3.heap.size, 0, none⟩) 1 1)).setCell ⟨k, 2, none⟩ (.int .i64 1)) w.heap.size (y : Int) s 1 (.slice (some ⟨w3.heap.size, 0, none⟩) 1 1)) w.heap.size (y : Int) s 1 (.slice (some ⟨w3.heap.size, 0, none⟩) 1 1) ∧ GuessOk w ⟨(y : Int), s, 1, [c]⟩ (.returned (.tuple #[.agg #[.int .i64 (y : Int), .int .i64 s, .int .i64 1, .slice (some ⟨w3.heap.size, 0, none⟩) 1 1], .bool true])) (fin4 (((w3.alloc (.cells #[.int .i64 (c)] 3)).setCell ⟨k, 3, none⟩ (.slice (some ⟨w3.heap.size, 0, none⟩) 1 1)).setCell ⟨k, 2, none⟩ (.int .i64 1)) w.heap.size (y : Int) s 1 (.slice (some ⟨w3.heap.size, 0, none⟩) 1 1))) := Lib.hid ⟨fin4q_box G5.out.2.1 _ _ _ _, _, rfl, ownsRow_off O5.out (fin4_off _ _ _ _ _ _) (fun j e s => row_no3 O5.out G5.out.2.1 (by decide) (by rw [e, s])), fin4q_below G5.out.2.2.1 (Nat.le_refl _) _ _ _ _⟩
      unfold fin4 at HF
      go_wp2
      clear d0 d1 d2 d3 r0 r1 r2 r3 q0 q1 q2 q3 e0 e1 e2 e3 g2 g3
      generalize (World.setCell (World.setCell (World.setCell (World.setCell (World.setCell (World.setCell _ _ _) _ _) _ _) _ _) _ _) _ _) = W2 at HF ⊢
      obtain ⟨r0, r1, r2, r3⟩ := HF.out.1.cells
      refine bodyPost_ret (v := .tuple #[.agg #[.int .i64 (y : Int), .int .i64 s, .int .i64 1, .slice (some ⟨w3.heap.size, 0, none⟩) 1 1], .bool true]) ?_ rfl HF.out.2
      simp [results, Tryd.results34, go_sem, r0, r1, r2, r3]
    · go_simp
      refine hK.out _ _ (HB1.out.trans ((below_new w1 _).mono HB1.out.size)) (fun hHeld => ?_)
      clear hK K
      (try simp only [Act.put, List.setIfInBounds_toArray, List.set_cons_zero, List.set_cons_succ])
      refine wpAnyH_ready (rs := [7]) (by kernel_rfl) (by simp) ?_
      refine AllReadyH.cons (o := { dst := some 16, op := Op.call { callee := Callee.value (Operand.func 58), args := #[Operand.tmp 15, Operand.const (Value.int IntKind.i64 3)], argTypes := #[25, 3] }, type := 3, pos := "ref.go:141", after := #[{ on := 6, ground := Ground.data }, { on := 5, ground := Ground.chain }], guard := none }) rfl (fun K hK => ?_) AllReadyH.nil
      go_simp
      refine (H3.out _ (HB1.out.trans ((below_new w1 _).mono HB1.out.size))).mono ?_; rintro e w2 ⟨rfl, hb⟩; have HB2 : Hid (Below wx.heap.size wx w2) := Lib.hid (((HB1.out.trans ((below_new w1 _).mono HB1.out.size))).trans (hb.mono ((HB1.out.trans ((below_new w1 _).mono HB1.out.size))).size)); have GA2 := Lib.hid (GC1.out.on hb); obtain ⟨d0, d1, d2, d3⟩ := GA2.out.1.cells; have g0 := GA2.out.1.frozen 0; have g1 := GA2.out.1.frozen 1; have g2 := GA2.out.1.frozen 2; have g3 := GA2.out.1.frozen 3; have GF := Lib.hid (GA2.out.set (y : Int) s c (.slice none 0 0)); unfold fin4 at GF; clear hb; simp only []
      refine hK.out _ _ HB2.out (fun hHeld => ?_)
      clear hK K
      (try simp only [Act.put, List.setIfInBounds_toArray, List.set_cons_zero, List.set_cons_succ])
      refine wpAnyH_take (i := 8) (oi := { dst := some 17, op := Op.build 38 #[(0, Operand.tmp 12), (1, Operand.tmp 14), (2, Operand.tmp 16)], type := 38, pos := "ref.go:141", after := #[{ on := 3, ground := Ground.data }, { on := 5, ground := Ground.data }, { on := 7, ground := Ground.data }], guard := none }) (v := ?_) rfl (by kernel_rfl) (by kernel_rfl) (by kernel_rfl) (fun _ _ _ h => h) (Or.inl ⟨by rfl, ?_⟩) hHeld ?_
      rotate_left
      · (intro W hSw; (try dsimp only at hSw); go_simp; try with_reducible rfl)
      (try simp only [Act.put, List.setIfInBounds_toArray, List.set_cons_zero, List.set_cons_succ])
      refine wpAnyH_ready (rs := [10]) (by kernel_rfl) (by simp) ?_
      refine AllReadyH.cons (o := { dst := none, op := Op.store 38 (Operand.tmp 4) (Operand.tmp 17), type := 0, pos := "ref.go:141", after := #[{ on := 9, ground := Ground.data }, { on := 8, ground := Ground.data }, { on := 7, ground := Ground.chain }, { on := 0, ground := Ground.phase }, { on := 1, ground := Ground.phase }, { on := 2, ground := Ground.phase }, { on := 3, ground := Ground.phase }, { on := 4, ground := Ground.phase }, { on := 5, ground := Ground.phase }, { on := 6, ground := Ground.phase }, { on := 7, ground := Ground.phase }, { on := 8, ground := Ground.phase }, { on := 9, ground := Ground.phase }], guard := none }) rfl (fun K hK => ?_) AllReadyH.nil
      go_simp
      refine hK.out _ _ ((((HB2.out.setCell HB1.out.size _).setCell HB1.out.size _).setCell HB1.out.size _).setCell HB1.out.size _) (fun hHeld => ?_)
      clear hK K
      (try simp only [Act.put, List.setIfInBounds_toArray, List.set_cons_zero, List.set_cons_succ])
      refine wpAnyH_done (by kernel_rfl) ?_ _
      generalize (World.setCell (World.setCell (World.setCell (World.setCell w2 _ _) _ _) _ _) _ _) = W at GF ⊢
      clear hHeld
      generalize w1.heap.size = k at GF ⊢
      (try clear d0 d1 d2 d3 g0 g1 g2 g3)
      obtain ⟨d0, d1, d2, d3⟩ := GF.out.1.cells
      go_wp2_with fail
      refine (H3w.out W GF.out.2.2.1).mono ?_
      rintro e w3 ⟨rfl, hb⟩
      have G3 := Lib.hid (GF.out.on hb)
      have G4 := Lib.hid (G3.out.on (below_new w3 (.cells #[.int .i64 (c)] 3)))
      have O4 : Hid ((w3.alloc (.cells #[.int .i64 (c)] 3)).ownsRow w.heap.size 3 1 (.slice (some ⟨w3.heap.size, 0, none⟩) 1 1) 1 [.int .i64 (c)]) := Lib.hid (World.ownsRow_lit w3 #[.int .i64 (c)] 1 G3.out.2.2.1.size (by unfold maxLen; omega) (by simp))
      have G5 := Lib.hid (G4.out.set32 1 (.slice (some ⟨w3.heap.size, 0, none⟩) 1 1))
      have O5 := Lib.hid (G4.out.row32 1 (.slice (some ⟨w3.heap.size, 0, none⟩) 1 1) O4.out)
      clear hb d0 d1 d2 d3
      obtain ⟨d0, d1, d2, d3⟩ := G4.out.1.cells
      have g2 := G4.out.1.frozen 2
      have g3 := G4.out.1.frozen 3
      obtain ⟨e0, e1, e2, e3⟩ := G5.out.1.cells
      obtain ⟨r0, r1, r2, r3⟩ := G5.out.2.1.cells
      have q0 := G5.out.2.1.frozen 0
      have q1 := G5.out.2.1.frozen 1
      have q2 := G5.out.2.1.frozen 2
      have q3 := G5.out.2.1.frozen 3
      have HF : Hid (BoxQ (fin4 (((w3.alloc (.cells #[.int .i64 (c)] 3)).setCell ⟨k, 3, none⟩ (.slice (some ⟨w3.heap.size, 0, none⟩) 1 1)).setCell ⟨k, 2, none⟩ (.int .i64 1)) w.heap.size (y : Int) s 1 (.slice (some ⟨w3.heap.size, 0, none⟩) 1 1)) w.heap.size (y : Int) s 1 (.slice (some ⟨w3.heap.size, 0, none⟩) 1 1) ∧ GuessOk w ⟨(y : Int), s, 1, [c]⟩ (.returned (.tuple #[.agg #[.int .i64 (y : Int), .int .i64 s, .int .i64 1, .slice (some ⟨w3.heap.size, 0, none⟩) 1 1], .bool true])) (fin4 (((w3.alloc (.cells #[.int .i64 (c)] 3)).setCell ⟨k, 3, none⟩ (.slice (some ⟨w3.heap.size, 0, none⟩) 1 1)).setCell ⟨k, 2, none⟩ (.int .i64 1)) w.heap.size (y : Int) s 1 (.slice (some ⟨w3.heap.size, 0, none⟩) 1 1))) := Lib.hid ⟨fin4q_box G5.out.2.1 _ _ _ _, _, rfl, ownsRow_off O5.out (fin4_off _ _ _ _ _ _) (fun j e s => row_no3 O5.out G5.out.2.1 (by decide) (by rw [e, s])), fin4q_below G5.out.2.2.1 (Nat.le_refl _) _ _ _ _⟩
      unfold fin4 at HF
      go_wp2
      clear d0 d1 d2 d3 r0 r1 r2 r3 q0 q1 q2 q3 e0 e1 e2 e3 g2 g3
      generalize (World.setCell (World.setCell (World.setCell (World.setCell (World.setCell (World.setCell _ _ _) _ _) _ _) _ _) _ _) _ _) = W2 at HF ⊢
      obtain ⟨r0, r1, r2, r3⟩ := HF.out.1.cells
      refine bodyPost_ret (v := .tuple #[.agg #[.int .i64 (y : Int), .int .i64 s, .int .i64 1, .slice (some ⟨w3.heap.size, 0, none⟩) 1 1], .bool true]) ?_ rfl HF.out.2
      simp [results, Tryd.results34, go_sem, r0, r1, r2, r3]
  · go_simp
    refine hK.out _ _ BA.out (fun hHeld => ?_)
    clear hK K
    (try simp only [Act.put, List.setIfInBounds_toArray, List.set_cons_zero, List.set_cons_succ])
    refine wpAnyH_ready (rs := [5]) (by kernel_rfl) (by simp) ?_
    refine AllReadyH.cons (o := { dst := some 14, op := Op.call { callee := Callee.value (Operand.func 58), args := #[Operand.tmp 13, Operand.const (Value.int IntKind.i64 1)], argTypes := #[25, 3] }, type := 3, pos := "ref.go:141", after := #[{ on := 4, ground := Ground.data }], guard := none }) rfl (fun K hK => ?_) AllReadyH.nil
    go_simp
    refine (H1.out _ BA.out).mono ?_; rintro e w1 ⟨rfl, hb⟩; have HB1 : Hid (Below wx.heap.size wx w1) := Lib.hid ((BA.out).trans (hb.mono (BA.out).size)); have GA1 := Lib.hid (GA.out.on hb); clear hb; simp only []
    refine hK.out _ _ HB1.out (fun hHeld => ?_)
    clear hK K
    (try simp only [Act.put, List.setIfInBounds_toArray, List.set_cons_zero, List.set_cons_succ])
    refine wpAnyH_ready (rs := [7]) (by kernel_rfl) (by simp) ?_
    refine AllReadyH.cons (o := { dst := some 16, op := Op.call { callee := Callee.value (Operand.func 58), args := #[Operand.tmp 15, Operand.const (Value.int IntKind.i64 3)], argTypes := #[25, 3] }, type := 3, pos := "ref.go:141", after := #[{ on := 6, ground := Ground.data }, { on := 5, ground := Ground.chain }], guard := none }) rfl (fun K hK => ?_) AllReadyH.nil
    go_simp
    refine (H3.out w1 HB1.out).mono ?_; rintro e w2 ⟨rfl, hb⟩; have HB2 : Hid (Below wx.heap.size wx w2) := Lib.hid ((HB1.out).trans (hb.mono (HB1.out).size)); have GA2 := Lib.hid (GA1.out.on hb); obtain ⟨d0, d1, d2, d3⟩ := GA2.out.1.cells; have g0 := GA2.out.1.frozen 0; have g1 := GA2.out.1.frozen 1; have g2 := GA2.out.1.frozen 2; have g3 := GA2.out.1.frozen 3; have GF := Lib.hid (GA2.out.set (y : Int) s c (.slice none 0 0)); unfold fin4 at GF; clear hb; simp only []
    refine hK.out _ _ HB2.out (fun hHeld => ?_)
    clear hK K
    (try simp only [Act.put, List.setIfInBounds_toArray, List.set_cons_zero, List.set_cons_succ])
    refine wpAnyH_take (i := 8) (oi := { dst := some 17, op := Op.build 38 #[(0, Operand.tmp 12), (1, Operand.tmp 14), (2, Operand.tmp 16)], type := 38, pos := "ref.go:141", after := #[{ on := 3, ground := Ground.data }, { on := 5, ground := Ground.data }, { on := 7, ground := Ground.data }], guard := none }) (v := ?_) rfl (by kernel_rfl) (by kernel_rfl) (by kernel_rfl) (fun _ _ _ h => h) (Or.inl ⟨by rfl, ?_⟩) hHeld ?_
    rotate_left
    · (intro W hSw; (try dsimp only at hSw); go_simp; try with_reducible rfl)
    (try simp only [Act.put, List.setIfInBounds_toArray, List.set_cons_zero, List.set_cons_succ])
    refine wpAnyH_ready (rs := [10]) (by kernel_rfl) (by simp) ?_
    refine AllReadyH.cons (o := { dst := none, op := Op.store 38 (Operand.tmp 4) (Operand.tmp 17), type := 0, pos := "ref.go:141", after := #[{ on := 9, ground := Ground.data }, { on := 8, ground := Ground.data }, { on := 7, ground := Ground.chain }, { on := 0, ground := Ground.phase }, { on := 1, ground := Ground.phase }, { on := 2, ground := Ground.phase }, { on := 3, ground := Ground.phase }, { on := 4, ground := Ground.phase }, { on := 5, ground := Ground.phase }, { on := 6, ground := Ground.phase }, { on := 7, ground := Ground.phase }, { on := 8, ground := Ground.phase }, { on := 9, ground := Ground.phase }], guard := none }) rfl (fun K hK => ?_) AllReadyH.nil
    go_simp
    refine hK.out _ _ ((((HB2.out.setCell (Nat.le_refl _) _).setCell (Nat.le_refl _) _).setCell (Nat.le_refl _) _).setCell (Nat.le_refl _) _) (fun hHeld => ?_)
    clear hK K
    (try simp only [Act.put, List.setIfInBounds_toArray, List.set_cons_zero, List.set_cons_succ])
    refine wpAnyH_done (by kernel_rfl) ?_ _
    generalize (World.setCell (World.setCell (World.setCell (World.setCell w2 _ _) _ _) _ _) _ _) = W at GF ⊢
    clear hHeld
    generalize wx.heap.size = k at GF ⊢
    (try clear d0 d1 d2 d3 g0 g1 g2 g3)
    obtain ⟨d0, d1, d2, d3⟩ := GF.out.1.cells
    go_wp2_with fail
    refine (H3w.out W GF.out.2.2.1).mono ?_
    rintro e w3 ⟨rfl, hb⟩
    have G3 := Lib.hid (GF.out.on hb)
    have G4 := Lib.hid (G3.out.on (below_new w3 (.cells #[.int .i64 (c)] 3)))
    have O4 : Hid ((w3.alloc (.cells #[.int .i64 (c)] 3)).ownsRow w.heap.size 3 1 (.slice (some ⟨w3.heap.size, 0, none⟩) 1 1) 1 [.int .i64 (c)]) := Lib.hid (World.ownsRow_lit w3 #[.int .i64 (c)] 1 G3.out.2.2.1.size (by unfold maxLen; omega) (by simp))
    have G5 := Lib.hid (G4.out.set32 1 (.slice (some ⟨w3.heap.size, 0, none⟩) 1 1))
    have O5 := Lib.hid (G4.out.row32 1 (.slice (some ⟨w3.heap.size, 0, none⟩) 1 1) O4.out)
    clear hb d0 d1 d2 d3
    obtain ⟨d0, d1, d2, d3⟩ := G4.out.1.cells
    have g2 := G4.out.1.frozen 2
    have g3 := G4.out.1.frozen 3
    obtain ⟨e0, e1, e2, e3⟩ := G5.out.1.cells
    obtain ⟨r0, r1, r2, r3⟩ := G5.out.2.1.cells
    have q0 := G5.out.2.1.frozen 0
    have q1 := G5.out.2.1.frozen 1
    have q2 := G5.out.2.1.frozen 2
    have q3 := G5.out.2.1.frozen 3
    have HF : Hid (BoxQ (fin4 (((w3.alloc (.cells #[.int .i64 (c)] 3)).setCell ⟨k, 3, none⟩ (.slice (some ⟨w3.heap.size, 0, none⟩) 1 1)).setCell ⟨k, 2, none⟩ (.int .i64 1)) w.heap.size (y : Int) s 1 (.slice (some ⟨w3.heap.size, 0, none⟩) 1 1)) w.heap.size (y : Int) s 1 (.slice (some ⟨w3.heap.size, 0, none⟩) 1 1) ∧ GuessOk w ⟨(y : Int), s, 1, [c]⟩ (.returned (.tuple #[.agg #[.int .i64 (y : Int), .int .i64 s, .int .i64 1, .slice (some ⟨w3.heap.size, 0, none⟩) 1 1], .bool true])) (fin4 (((w3.alloc (.cells #[.int .i64 (c)] 3)).setCell ⟨k, 3, none⟩ (.slice (some ⟨w3.heap.size, 0, none⟩) 1 1)).setCell ⟨k, 2, none⟩ (.int .i64 1)) w.heap.size (y : Int) s 1 (.slice (some ⟨w3.heap.size, 0, none⟩) 1 1))) := Lib.hid ⟨fin4q_box G5.out.2.1 _ _ _ _, _, rfl, ownsRow_off O5.out (fin4_off _ _ _ _ _ _) (fun j e s => row_no3 O5.out G5.out.2.1 (by decide) (by rw [e, s])), fin4q_below G5.out.2.2.1 (Nat.le_refl _) _ _ _ _⟩
    unfold fin4 at HF
    go_wp2
    clear d0 d1 d2 d3 r0 r1 r2 r3 q0 q1 q2 q3 e0 e1 e2 e3 g2 g3
    generalize (World.setCell (World.setCell (World.setCell (World.setCell (World.setCell (World.setCell _ _ _) _ _) _ _) _ _) _ _) _ _) = W2 at HF ⊢
    obtain ⟨r0, r1, r2, r3⟩ := HF.out.1.cells
    refine bodyPost_ret (v := .tuple #[.agg #[.int .i64 (y : Int), .int .i64 s, .int .i64 1, .slice (some ⟨w3.heap.size, 0, none⟩) 1 1], .bool true]) ?_ rfl HF.out.2
    simp [results, Tryd.results34, go_sem, r0, r1, r2, r3]

set_option maxRecDepth 100000 in
set_option maxHeartbeats 4000000 in
theorem guess_bit (v : Value) (d : List UInt8) (w : World) (hv : BytesAt w v d) (hl : d.length ≤ 100000) (h5 : 5 ≤ d.length) (hf : (d.getD 0 0).toNat = 5) : Calls Tryd.prog 34 #[v] w (GuessOk w ⟨((d.getD 0 0).toNat : Int), atN d 1, 1, [atN d 3 / 32768]⟩) := by
  have HV := Lib.hid hv
  have HL := Lib.hid hl
  obtain ⟨wx, hwx⟩ : ∃ wx, wx = w.alloc (.cells #[.int .i64 0, .int .i64 0, .int .i64 0, .slice none 0 0] 38) := ⟨_, rfl⟩
  have X0 : Hid (Below w.heap.size w wx) := Lib.hid (by rw [hwx]; exact below_new w _)
  have B0 : Hid (BoxQ wx w.heap.size 0 0 0 (.slice none 0 0)) := Lib.hid (by rw [hwx]; exact heap_alloc_new w _)
  have V0 := Lib.hid (HV.out.on X0.out)
  obtain ⟨b, off, cap, rfl, c0⟩ := bytes_getD V0.out 0 (by omega)
  have hy := getD_lt d 0
  have H1 : Hid (∀ W : World, Below wx.heap.size wx W → Calls Tryd.prog 58 #[.slice (some ⟨b, off, none⟩) d.length cap, .int .i64 1] W fun e w' => e = .returned (.int .i64 (atN d 1)) ∧ Below W.heap.size W w') := Lib.hid (fun W h => at_any _ d 1 W (V0.out.on h) (by omega) (by have := HL.out; omega))
  have H3 : Hid (∀ W : World, Below wx.heap.size wx W → Calls Tryd.prog 58 #[.slice (some ⟨b, off, none⟩) d.length cap, .int .i64 3] W fun e w' => e = .returned (.int .i64 (atN d 3)) ∧ Below W.heap.size W w') := Lib.hid (fun W h => at_any _ d 3 W (V0.out.on h) (by omega) (by have := HL.out; omega))
  have l5 : ¬ (d.length : Int) < 5 := by omega
  have l6 : (5 : Int) ≤ (d.length : Int) := by omega
  have l7 : (0 : Int) < (d.length : Int) := by omega
  have l8 : 0 < d.length := by omega
  have w0 : IntKind.i64.wrap ((d.getD 0 0).toNat : Int) = ((d.getD 0 0).toNat : Int) := by rw [IntKind.wrap_i64]; omega
  rw [Nat.add_zero] at c0
  have c0' := (V0.out.on (Below.refl _ wx).drew)
  clear c0'
  have BD : Hid (Below wx.heap.size wx wx.drew) := Lib.hid (Below.refl _ wx).drew
  obtain ⟨WA, hWA⟩ : ∃ x, x = wx.drew.alloc (.cells #[.int .i64 0, .int .i64 0, .int .i64 0, .slice none 0 0] 38) := ⟨_, rfl⟩
  have BA : Hid (Below wx.heap.size wx (wx.drew.alloc (.cells #[.int .i64 0, .int .i64 0, .int .i64 0, .slice none 0 0] 38))) := Lib.hid (BD.out.trans (below_new wx.drew _))
  have GA : Hid (GB w (wx.drew.alloc (.cells #[.int .i64 0, .int .i64 0, .int .i64 0, .slice none 0 0] 38)) wx.heap.size 0 0 0 (.slice none 0 0)) := Lib.hid (gb_new (B0.out.on BD.out) (X0.out.trans (BD.out.mono X0.out.size)) 0 0 0 _)
  clear hWA WA
  have hcA := (BA.out.cell (lt_cell c0)).trans c0
  have n5 : (((d.getD 0 0).toNat : Int) == 5) = true := by rw [hf]; rfl
  have n6 : (((d.getD 0 0).toNat : Int) == 6) = false := by rw [hf]; rfl
  clear hf
  have H3w : Hid (∀ W : World, Below w.heap.size w W → Calls Tryd.prog 58 #[.slice (some ⟨b, off, none⟩) d.length cap, .int .i64 3] W fun e w' => e = .returned (.int .i64 (atN d 3)) ∧ Below W.heap.size W w') := Lib.hid (fun W h => at_any _ d 3 W (HV.out.on h) (by omega) (by have := HL.out; omega))
  have HC := Lib.hid (atN_bounds d 3)
  generalize (d.getD 0 0).toNat = y at *
  generalize atN d 1 = s at *
  generalize atN d 3 = c at *
  clear hv hl h5
  go_enter Tryd.func34, Tryd.ntmps34
  go_wp2_with fail
  rw [← hwx]
  clear hwx
  refine wp_region_held_drew (S := fun w' => Below wx.heap.size wx w') (by kernel_rfl) BD.out (fun hHeld => ?_)
  refine wpAnyH_take (i := 0) (oi := { dst := some 9, op := Op.move (Operand.tmp 0), type := 25, pos := "ref.go:141", after := #[], guard := none }) (v := ?_) rfl (by kernel_rfl) (by kernel_rfl) (by kernel_rfl) (fun _ _ _ h => h) (Or.inl ⟨by rfl, ?_⟩) hHeld ?_
  rotate_left
  · (intro W hSw; (try dsimp only at hSw); go_simp; try with_reducible rfl)
  (try simp only [Act.put, List.setIfInBounds_toArray, List.set_cons_zero, List.set_cons_succ])
  refine wpAnyH_take (i := 1) (oi := { dst := some 10, op := Op.indexAddr 25 (Operand.tmp 9) (Operand.const (Value.int IntKind.i64 0)), type := 0, pos := "ref.go:141", after := #[{ on := 0, ground := Ground.data }], guard := none }) (v := ?_) rfl (by kernel_rfl) (by kernel_rfl) (by kernel_rfl) (fun _ _ _ h => h) (Or.inl ⟨by rfl, ?_⟩) hHeld ?_
  rotate_left
  · (intro W hSw; (try dsimp only at hSw); go_simp; try with_reducible rfl)
  (try simp only [Act.put, List.setIfInBounds_toArray, List.set_cons_zero, List.set_cons_succ])
  refine wpAnyH_take (i := 2) (oi := { dst := some 11, op := Op.load 5 (Operand.tmp 10), type := 5, pos := "ref.go:141", after := #[{ on := 1, ground := Ground.data }], guard := none }) (v := ?_) rfl (by kernel_rfl) (by kernel_rfl) (by kernel_rfl) (fun _ _ _ h => h) (Or.inl ⟨by rfl, ?_⟩) hHeld ?_
  rotate_left
  · (intro W hSw; (try dsimp only at hSw); have hcx := (hSw.cell (lt_cell c0)).trans c0; go_simp; try with_reducible rfl)
  (try simp only [Act.put, List.setIfInBounds_toArray, List.set_cons_zero, List.set_cons_succ])
  refine wpAnyH_take (i := 3) (oi := { dst := some 12, op := Op.convert 5 3 (Operand.tmp 11), type := 3, pos := "ref.go:141", after := #[{ on := 2, ground := Ground.data }], guard := none }) (v := ?_) rfl (by kernel_rfl) (by kernel_rfl) (by kernel_rfl) (fun _ _ _ h => h) (Or.inl ⟨by rfl, ?_⟩) hHeld ?_
  rotate_left
  · (intro W hSw; (try dsimp only at hSw); go_simp; try with_reducible rfl)
  (try simp only [Act.put, List.setIfInBounds_toArray, List.set_cons_zero, List.set_cons_succ])
  refine wpAnyH_take (i := 4) (oi := { dst := some 13, op := Op.move (Operand.tmp 0), type := 25, pos := "ref.go:141", after := #[], guard := none }) (v := ?_) rfl (by kernel_rfl) (by kernel_rfl) (by kernel_rfl) (fun _ _ _ h => h) (Or.inl ⟨by rfl, ?_⟩) hHeld ?_
  rotate_left
  · (intro W hSw; (try dsimp only at hSw); go_simp; try with_reducible rfl)
  (try simp only [Act.put, List.setIfInBounds_toArray, List.set_cons_zero, List.set_cons_succ])
  refine wpAnyH_take (i := 6) (oi := { dst := some 15, op := Op.move (Operand.tmp 0), type := 25, pos := "ref.go:141", after := #[], guard := none }) (v := ?_) rfl (by kernel_rfl) (by kernel_rfl) (by kernel_rfl) (fun _ _ _ h => h) (Or.inl ⟨by rfl, ?_⟩) hHeld ?_
  rotate_left
  · (intro W hSw; (try dsimp only at hSw); go_simp; try with_reducible rfl)
  (try simp only [Act.put, List.setIfInBounds_toArray, List.set_cons_zero, List.set_cons_succ])
  refine wpAnyH_ready (rs := [5, 9]) (by kernel_rfl) (by simp) ?_
  refine AllReadyH.cons (o := { dst := some 14, op := Op.call { callee := Callee.value (Operand.func 58), args := #[Operand.tmp 13, Operand.const (Value.int IntKind.i64 1)], argTypes := #[25, 3] }, type := 3, pos := "ref.go:141", after := #[{ on := 4, ground := Ground.data }], guard := none }) rfl (fun K hK => ?_) (AllReadyH.cons (o := { dst := some 4, op := Op.alloc 38, type := 0, pos := "ref.go:141", after := #[], guard := none }) rfl (fun K hK => ?_) AllReadyH.nil)
  · go_simp
    refine (H1.out wx.drew BD.out).mono ?_; rintro e w1 ⟨rfl, hb⟩; have HB1 : Hid (Below wx.heap.size wx w1) := Lib.hid ((BD.out).trans (hb.mono (BD.out).size)); have GC1 : Hid (GB w (w1.alloc (.cells #[.int .i64 0, .int .i64 0, .int .i64 0, .slice none 0 0] 38)) w1.heap.size 0 0 0 (.slice none 0 0)) := Lib.hid (gb_new (B0.out.on HB1.out) (X0.out.trans (HB1.out.mono X0.out.size)) 0 0 0 _); clear hb; simp only []
    refine hK.out _ _ HB1.out (fun hHeld => ?_)
    clear hK K
    (try simp only [Act.put, List.setIfInBounds_toArray, List.set_cons_zero, List.set_cons_succ])
    refine wpAnyH_ready (rs := [7, 9]) (by kernel_rfl) (by simp) ?_
    refine AllReadyH.cons (o := { dst := some 16, op := Op.call { callee := Callee.value (Operand.func 58), args := #[Operand.tmp 15, Operand.const (Value.int IntKind.i64 3)], argTypes := #[25, 3] }, type := 3, pos := "ref.go:141", after := #[{ on := 6, ground := Ground.data }, { on := 5, ground := Ground.chain }], guard := none }) rfl (fun K hK => ?_) (AllReadyH.cons (o := { dst := some 4, op := Op.alloc 38, type := 0, pos := "ref.go:141", after := #[], guard := none }) rfl (fun K hK => ?_) AllReadyH.nil)
    · go_simp
      refine (H3.out w1 HB1.out).mono ?_; rintro e w2 ⟨rfl, hb⟩; have HB2 : Hid (Below wx.heap.size wx w2) := Lib.hid ((HB1.out).trans (hb.mono (HB1.out).size)); have GN := Lib.hid (gb_new (B0.out.on HB2.out) (X0.out.trans (HB2.out.mono X0.out.size)) 0 0 0 (.slice none 0 0)); have GF : Hid (GB w (w2.alloc (.cells #[.int .i64 (y : Int), .int .i64 s, .int .i64 c, .slice none 0 0] 38)) w2.heap.size (y : Int) s c (.slice none 0 0)) := Lib.hid (gb_new (B0.out.on HB2.out) (X0.out.trans (HB2.out.mono X0.out.size)) _ _ _ _); clear hb; simp only []
      refine hK.out _ _ HB2.out (fun hHeld => ?_)
      clear hK K
      (try simp only [Act.put, List.setIfInBounds_toArray, List.set_cons_zero, List.set_cons_succ])
      refine wpAnyH_take (i := 8) (oi := { dst := some 17, op := Op.build 38 #[(0, Operand.tmp 12), (1, Operand.tmp 14), (2, Operand.tmp 16)], type := 38, pos := "ref.go:141", after := #[{ on := 3, ground := Ground.data }, { on := 5, ground := Ground.data }, { on := 7, ground := Ground.data }], guard := none }) (v := ?_) rfl (by kernel_rfl) (by kernel_rfl) (by kernel_rfl) (fun _ _ _ h => h) (Or.inl ⟨by rfl, ?_⟩) hHeld ?_
      rotate_left
      · (intro W hSw; (try dsimp only at hSw); go_simp; try with_reducible rfl)
      (try simp only [Act.put, List.setIfInBounds_toArray, List.set_cons_zero, List.set_cons_succ])
      refine wpAnyH_ready (rs := [9]) (by kernel_rfl) (by simp) ?_
      refine AllReadyH.cons (o := { dst := some 4, op := Op.alloc 38, type := 0, pos := "ref.go:141", after := #[], guard := none }) rfl (fun K hK => ?_) AllReadyH.nil
      go_simp
      refine hK.out _ _ (HB2.out.trans ((below_new w2 _).mono HB2.out.size)) (fun hHeld => ?_)
      clear hK K
      (try simp only [Act.put, List.setIfInBounds_toArray, List.set_cons_zero, List.set_cons_succ])
      refine wpAnyH_ready (rs := [10]) (by kernel_rfl) (by simp) ?_
      refine AllReadyH.cons (o := { dst := none, op := Op.store 38 (Operand.tmp 4) (Operand.tmp 17), type := 0, pos := "ref.go:141", after := #[{ on := 9, ground := Ground.data }, { on := 8, ground := Ground.data }, { on := 7, ground := Ground.chain }, { on := 0, ground := Ground.phase }, { on := 1, ground := Ground.phase }, { on := 2, ground := Ground.phase }, { on := 3, ground := Ground.phase }, { on := 4, ground := Ground.phase }, { on := 5, ground := Ground.phase }, { on := 6, ground := Ground.phase }, { on := 7, ground := Ground.phase }, { on := 8, ground := Ground.phase }, { on := 9, ground := Ground.phase }], guard := none }) rfl (fun K hK => ?_) AllReadyH.nil
      go_simp
      refine hK.out _ _ (HB2.out.trans ((below_new w2 _).mono HB2.out.size)) (fun hHeld => ?_)
      clear hK K
      (try simp only [Act.put, List.setIfInBounds_toArray, List.set_cons_zero, List.set_cons_succ])
      refine wpAnyH_done (by kernel_rfl) ?_ _
      generalize (w2.alloc _) = W at GF ⊢
      clear hHeld
      generalize w2.heap.size = k at GF ⊢
      (try clear d0 d1 d2 d3 g0 g1 g2 g3)
      obtain ⟨d0, d1, d2, d3⟩ := GF.out.1.cells
      go_wp2_with fail
      refine (H3w.out W GF.out.2.2.1).mono ?_
      rintro e w3 ⟨rfl, hb⟩
      have G3 := Lib.hid (GF.out.on hb)
      have G4 := Lib.hid (G3.out.on (below_new w3 (.cells #[.int .i64 (c / 32768)] 3)))
      have O4 : Hid ((w3.alloc (.cells #[.int .i64 (c / 32768)] 3)).ownsRow w.heap.size 3 1 (.slice (some ⟨w3.heap.size, 0, none⟩) 1 1) 1 [.int .i64 (c / 32768)]) := Lib.hid (World.ownsRow_lit w3 #[.int .i64 (c / 32768)] 1 G3.out.2.2.1.size (by unfold maxLen; omega) (by simp))
      have G5 := Lib.hid (G4.out.set32 1 (.slice (some ⟨w3.heap.size, 0, none⟩) 1 1))
      have O5 := Lib.hid (G4.out.row32 1 (.slice (some ⟨w3.heap.size, 0, none⟩) 1 1) O4.out)
      clear hb d0 d1 d2 d3
      obtain ⟨d0, d1, d2, d3⟩ := G4.out.1.cells
      have g2 := G4.out.1.frozen 2
      have g3 := G4.out.1.frozen 3
      obtain ⟨e0, e1, e2, e3⟩ := G5.out.1.cells
      obtain ⟨r0, r1, r2, r3⟩ := G5.out.2.1.cells
      have q0 := G5.out.2.1.frozen 0
      have q1 := G5.out.2.1.frozen 1
      have q2 := G5.out.2.1.frozen 2
      have q3 := G5.out.2.1.frozen 3
      have HF : Hid (BoxQ (fin4 (((w3.alloc (.cells #[.int .i64 (c / 32768)] 3)).setCell ⟨k, 3, none⟩ (.slice (some ⟨w3.heap.size, 0, none⟩) 1 1)).setCell ⟨k, 2, none⟩ (.int .i64 1)) w.heap.size (y : Int) s 1 (.slice (some ⟨w3.heap.size, 0, none⟩) 1 1)) w.heap.size (y : Int) s 1 (.slice (some ⟨w3.heap.size, 0, none⟩) 1 1) ∧ GuessOk w ⟨(y : Int), s, 1, [c / 32768]⟩ (.returned (.tuple #[.agg #[.int .i64 (y : Int), .int .i64 s, .int .i64 1, .slice (some ⟨w3.heap.size, 0, none⟩) 1 1], .bool true])) (fin4 (((w3.alloc (.cells #[.int .i64 (c / 32768)] 3)).setCell ⟨k, 3, none⟩ (.slice (some ⟨w3.heap.size, 0, none⟩) 1 1)).setCell ⟨k, 2, none⟩ (.int .i64 1)) w.heap.size (y : Int) s 1 (.slice (some ⟨w3.heap.size, 0, none⟩) 1 1))) := Lib.hid ⟨fin4q_box G5.out.2.1 _ _ _ _, _, rfl, ownsRow_off O5.out (fin4_off _ _ _ _ _ _) (fun j e s => row_no3 O5.out G5.out.2.1 (by decide) (by rw [e, s])), fin4q_below G5.out.2.2.1 (Nat.le_refl _) _ _ _ _⟩
      unfold fin4 at HF
      go_wp2
      clear d0 d1 d2 d3 r0 r1 r2 r3 q0 q1 q2 q3 e0 e1 e2 e3 g2 g3
      generalize (World.setCell (World.setCell (World.setCell (World.setCell (World.setCell (World.setCell _ _ _) _ _) _ _) _ _) _ _) _ _) = W2 at HF ⊢
      obtain ⟨r0, r1, r2, r3⟩ := HF.out.1.cells
      refine bodyPost_ret (v := .tuple #[.agg #[.int .i64 (y : Int), .int .i64 s, .int .i64 1, .slice (some ⟨w3.heap.size, 0, none⟩) 1 1], .bool true]) ?_ rfl HF.out.2
      simp [results, Tryd.results34, go_sem, r0, r1, r2, r3]
    · go_simp
      refine hK.out _ _ (HB1.out.trans ((below_new w1 _).mono HB1.out.size)) (fun hHeld => ?_)
      clear hK K
      (try simp only [Act.put, List.setIfInBounds_toArray, List.set_cons_zero, List.set_cons_succ])
      refine wpAnyH_ready (rs := [7]) (by kernel_rfl) (by simp) ?_
      refine AllReadyH.cons (o := { dst := some 16, op := Op.call { callee := Callee.value (Operand.func 58), args := #[Operand.tmp 15, Operand.const (Value.int IntKind.i64 3)], argTypes := #[25, 3] }, type := 3, pos := "ref.go:141", after := #[{ on := 6, ground := Ground.data }, { on := 5, ground := Ground.chain }], guard := none }) rfl (fun K hK => ?_) AllReadyH.nil
      go_simp
      refine (H3.out _ (HB1.out.trans ((below_new w1 _).mono HB1.out.size))).mono ?_; rintro e w2 ⟨rfl, hb⟩; have HB2 : Hid (Below wx.heap.size wx w2) := Lib.hid (((HB1.out.trans ((below_new w1 _).mono HB1.out.size))).trans (hb.mono ((HB1.out.trans ((below_new w1 _).mono HB1.out.size))).size)); have GA2 := Lib.hid (GC1.out.on hb); obtain ⟨d0, d1, d2, d3⟩ := GA2.out.1.cells; have g0 := GA2.out.1.frozen 0; have g1 := GA2.out.1.frozen 1; have g2 := GA2.out.1.frozen 2; have g3 := GA2.out.1.frozen 3; have GF := Lib.hid (GA2.out.set (y : Int) s c (.slice none 0 0)); unfold fin4 at GF; clear hb; simp only []
      refine hK.out _ _ HB2.out (fun hHeld => ?_)
      clear hK K
      (try simp only [Act.put, List.setIfInBounds_toArray, List.set_cons_zero, List.set_cons_succ])
      refine wpAnyH_take (i := 8) (oi := { dst := some 17, op := Op.build 38 #[(0, Operand.tmp 12), (1, Operand.tmp 14), (2, Operand.tmp 16)], type := 38, pos := "ref.go:141", after := #[{ on := 3, ground := Ground.data }, { on := 5, ground := Ground.data }, { on := 7, ground := Ground.data }], guard := none }) (v := ?_) rfl (by kernel_rfl) (by kernel_rfl) (by kernel_rfl) (fun _ _ _ h => h) (Or.inl ⟨by rfl, ?_⟩) hHeld ?_
      rotate_left
      · (intro W hSw; (try dsimp only at hSw); go_simp; try with_reducible rfl)
      (try simp only [Act.put, List.setIfInBounds_toArray, List.set_cons_zero, List.set_cons_succ])
      refine wpAnyH_ready (rs := [10]) (by kernel_rfl) (by simp) ?_
      refine AllReadyH.cons (o := { dst := none, op := Op.store 38 (Operand.tmp 4) (Operand.tmp 17), type := 0, pos := "ref.go:141", after := #[{ on := 9, ground := Ground.data }, { on := 8, ground := Ground.data }, { on := 7, ground := Ground.chain }, { on := 0, ground := Ground.phase }, { on := 1, ground := Ground.phase }, { on := 2, ground := Ground.phase }, { on := 3, ground := Ground.phase }, { on := 4, ground := Ground.phase }, { on := 5, ground := Ground.phase }, { on := 6, ground := Ground.phase }, { on := 7, ground := Ground.phase }, { on := 8, ground := Ground.phase }, { on := 9, ground := Ground.phase }], guard := none }) rfl (fun K hK => ?_) AllReadyH.nil
      go_simp
      refine hK.out _ _ ((((HB2.out.setCell HB1.out.size _).setCell HB1.out.size _).setCell HB1.out.size _).setCell HB1.out.size _) (fun hHeld => ?_)
      clear hK K
      (try simp only [Act.put, List.setIfInBounds_toArray, List.set_cons_zero, List.set_cons_succ])
      refine wpAnyH_done (by kernel_rfl) ?_ _
      generalize (World.setCell (World.setCell (World.setCell (World.setCell w2 _ _) _ _) _ _) _ _) = W at GF ⊢
      clear hHeld
      generalize w1.heap.size = k at GF ⊢
      (try clear d0 d1 d2 d3 g0 g1 g2 g3)
      obtain ⟨d0, d1, d2, d3⟩ := GF.out.1.cells
      go_wp2_with fail
      refine (H3w.out W GF.out.2.2.1).mono ?_
      rintro e w3 ⟨rfl, hb⟩
      have G3 := Lib.hid (GF.out.on hb)
      have G4 := Lib.hid (G3.out.on (below_new w3 (.cells #[.int .i64 (c / 32768)] 3)))
      have O4 : Hid ((w3.alloc (.cells #[.int .i64 (c / 32768)] 3)).ownsRow w.heap.size 3 1 (.slice (some ⟨w3.heap.size, 0, none⟩) 1 1) 1 [.int .i64 (c / 32768)]) := Lib.hid (World.ownsRow_lit w3 #[.int .i64 (c / 32768)] 1 G3.out.2.2.1.size (by unfold maxLen; omega) (by simp))
      have G5 := Lib.hid (G4.out.set32 1 (.slice (some ⟨w3.heap.size, 0, none⟩) 1 1))
      have O5 := Lib.hid (G4.out.row32 1 (.slice (some ⟨w3.heap.size, 0, none⟩) 1 1) O4.out)
      clear hb d0 d1 d2 d3
      obtain ⟨d0, d1, d2, d3⟩ := G4.out.1.cells
      have g2 := G4.out.1.frozen 2
      have g3 := G4.out.1.frozen 3
      obtain ⟨e0, e1, e2, e3⟩ := G5.out.1.cells
      obtain ⟨r0, r1, r2, r3⟩ := G5.out.2.1.cells
      have q0 := G5.out.2.1.frozen 0
      have q1 := G5.out.2.1.frozen 1
      have q2 := G5.out.2.1.frozen 2
      have q3 := G5.out.2.1.frozen 3
      have HF : Hid (BoxQ (fin4 (((w3.alloc (.cells #[.int .i64 (c / 32768)] 3)).setCell ⟨k, 3, none⟩ (.slice (some ⟨w3.heap.size, 0, none⟩) 1 1)).setCell ⟨k, 2, none⟩ (.int .i64 1)) w.heap.size (y : Int) s 1 (.slice (some ⟨w3.heap.size, 0, none⟩) 1 1)) w.heap.size (y : Int) s 1 (.slice (some ⟨w3.heap.size, 0, none⟩) 1 1) ∧ GuessOk w ⟨(y : Int), s, 1, [c / 32768]⟩ (.returned (.tuple #[.agg #[.int .i64 (y : Int), .int .i64 s, .int .i64 1, .slice (some ⟨w3.heap.size, 0, none⟩) 1 1], .bool true])) (fin4 (((w3.alloc (.cells #[.int .i64 (c / 32768)] 3)).setCell ⟨k, 3, none⟩ (.slice (some ⟨w3.heap.size, 0, none⟩) 1 1)).setCell ⟨k, 2, none⟩ (.int .i64 1)) w.heap.size (y : Int) s 1 (.slice (some ⟨w3.heap.size, 0, none⟩) 1 1))) := Lib.hid ⟨fin4q_box G5.out.2.1 _ _ _ _, _, rfl, ownsRow_off O5.out (fin4_off _ _ _ _ _ _) (fun j e s => row_no3 O5.out G5.out.2.1 (by decide) (by rw [e, s])), fin4q_below G5.out.2.2.1 (Nat.le_refl _) _ _ _ _⟩
      unfold fin4 at HF
      go_wp2
      clear d0 d1 d2 d3 r0 r1 r2 r3 q0 q1 q2 q3 e0 e1 e2 e3 g2 g3
      generalize (World.setCell (World.setCell (World.setCell (World.setCell (World.setCell (World.setCell _ _ _) _ _) _ _) _ _) _ _) _ _) = W2 at HF ⊢
      obtain ⟨r0, r1, r2, r3⟩ := HF.out.1.cells
      refine bodyPost_ret (v := .tuple #[.agg #[.int .i64 (y : Int), .int .i64 s, .int .i64 1, .slice (some ⟨w3.heap.size, 0, none⟩) 1 1], .bool true]) ?_ rfl HF.out.2
      simp [results, Tryd.results34, go_sem, r0, r1, r2, r3]
  · go_simp
    refine hK.out _ _ BA.out (fun hHeld => ?_)
    clear hK K
    (try simp only [Act.put, List.setIfInBounds_toArray, List.set_cons_zero, List.set_cons_succ])
    refine wpAnyH_ready (rs := [5]) (by kernel_rfl) (by simp) ?_
    refine AllReadyH.cons (o := { dst := some 14, op := Op.call { callee := Callee.value (Operand.func 58), args := #[Operand.tmp 13, Operand.const (Value.int IntKind.i64 1)], argTypes := #[25, 3] }, type := 3, pos := "ref.go:141", after := #[{ on := 4, ground := Ground.data }], guard := none }) rfl (fun K hK => ?_) AllReadyH.nil
    go_simp
    refine (H1.out _ BA.out).mono ?_; rintro e w1 ⟨rfl, hb⟩; have HB1 : Hid (Below wx.heap.size wx w1) := Lib.hid ((BA.out).trans (hb.mono (BA.out).size)); have GA1 := Lib.hid (GA.out.on hb); clear hb; simp only []
    refine hK.out _ _ HB1.out (fun hHeld => ?_)
    clear hK K
    (try simp only [Act.put, List.setIfInBounds_toArray, List.set_cons_zero, List.set_cons_succ])
    refine wpAnyH_ready (rs := [7]) (by kernel_rfl) (by simp) ?_
    refine AllReadyH.cons (o := { dst := some 16, op := Op.call { callee := Callee.value (Operand.func 58), args := #[Operand.tmp 15, Operand.const (Value.int IntKind.i64 3)], argTypes := #[25, 3] }, type := 3, pos := "ref.go:141", after := #[{ on := 6, ground := Ground.data }, { on := 5, ground := Ground.chain }], guard := none }) rfl (fun K hK => ?_) AllReadyH.nil
    go_simp
    refine (H3.out w1 HB1.out).mono ?_; rintro e w2 ⟨rfl, hb⟩; have HB2 : Hid (Below wx.heap.size wx w2) := Lib.hid ((HB1.out).trans (hb.mono (HB1.out).size)); have GA2 := Lib.hid (GA1.out.on hb); obtain ⟨d0, d1, d2, d3⟩ := GA2.out.1.cells; have g0 := GA2.out.1.frozen 0; have g1 := GA2.out.1.frozen 1; have g2 := GA2.out.1.frozen 2; have g3 := GA2.out.1.frozen 3; have GF := Lib.hid (GA2.out.set (y : Int) s c (.slice none 0 0)); unfold fin4 at GF; clear hb; simp only []
    refine hK.out _ _ HB2.out (fun hHeld => ?_)
    clear hK K
    (try simp only [Act.put, List.setIfInBounds_toArray, List.set_cons_zero, List.set_cons_succ])
    refine wpAnyH_take (i := 8) (oi := { dst := some 17, op := Op.build 38 #[(0, Operand.tmp 12), (1, Operand.tmp 14), (2, Operand.tmp 16)], type := 38, pos := "ref.go:141", after := #[{ on := 3, ground := Ground.data }, { on := 5, ground := Ground.data }, { on := 7, ground := Ground.data }], guard := none }) (v := ?_) rfl (by kernel_rfl) (by kernel_rfl) (by kernel_rfl) (fun _ _ _ h => h) (Or.inl ⟨by rfl, ?_⟩) hHeld ?_
    rotate_left
    · (intro W hSw; (try dsimp only at hSw); go_simp; try with_reducible rfl)
    (try simp only [Act.put, List.setIfInBounds_toArray, List.set_cons_zero, List.set_cons_succ])
    refine wpAnyH_ready (rs := [10]) (by kernel_rfl) (by simp) ?_
    refine AllReadyH.cons (o := { dst := none, op := Op.store 38 (Operand.tmp 4) (Operand.tmp 17), type := 0, pos := "ref.go:141", after := #[{ on := 9, ground := Ground.data }, { on := 8, ground := Ground.data }, { on := 7, ground := Ground.chain }, { on := 0, ground := Ground.phase }, { on := 1, ground := Ground.phase }, { on := 2, ground := Ground.phase }, { on := 3, ground := Ground.phase }, { on := 4, ground := Ground.phase }, { on := 5, ground := Ground.phase }, { on := 6, ground := Ground.phase }, { on := 7, ground := Ground.phase }, { on := 8, ground := Ground.phase }, { on := 9, ground := Ground.phase }], guard := none }) rfl (fun K hK => ?_) AllReadyH.nil
    go_simp
    refine hK.out _ _ ((((HB2.out.setCell (Nat.le_refl _) _).setCell (Nat.le_refl _) _).setCell (Nat.le_refl _) _).setCell (Nat.le_refl _) _) (fun hHeld => ?_)
    clear hK K
    (try simp only [Act.put, List.setIfInBounds_toArray, List.set_cons_zero, List.set_cons_succ])
    refine wpAnyH_done (by kernel_rfl) ?_ _
    generalize (World.setCell (World.setCell (World.setCell (World.setCell w2 _ _) _ _) _ _) _ _) = W at GF ⊢
    clear hHeld
    generalize wx.heap.size = k at GF ⊢
    (try clear d0 d1 d2 d3 g0 g1 g2 g3)
    obtain ⟨d0, d1, d2, d3⟩ := GF.out.1.cells
    go_wp2_with fail
    refine (H3w.out W GF.out.2.2.1).mono ?_
    rintro e w3 ⟨rfl, hb⟩
    have G3 := Lib.hid (GF.out.on hb)
    have G4 := Lib.hid (G3.out.on (below_new w3 (.cells #[.int .i64 (c / 32768)] 3)))
    have O4 : Hid ((w3.alloc (.cells #[.int .i64 (c / 32768)] 3)).ownsRow w.heap.size 3 1 (.slice (some ⟨w3.heap.size, 0, none⟩) 1 1) 1 [.int .i64 (c / 32768)]) := Lib.hid (World.ownsRow_lit w3 #[.int .i64 (c / 32768)] 1 G3.out.2.2.1.size (by unfold maxLen; omega) (by simp))
    have G5 := Lib.hid (G4.out.set32 1 (.slice (some ⟨w3.heap.size, 0, none⟩) 1 1))
    have O5 := Lib.hid (G4.out.row32 1 (.slice (some ⟨w3.heap.size, 0, none⟩) 1 1) O4.out)
    clear hb d0 d1 d2 d3
    obtain ⟨d0, d1, d2, d3⟩ := G4.out.1.cells
    have g2 := G4.out.1.frozen 2
    have g3 := G4.out.1.frozen 3
    obtain ⟨e0, e1, e2, e3⟩ := G5.out.1.cells
    obtain ⟨r0, r1, r2, r3⟩ := G5.out.2.1.cells
    have q0 := G5.out.2.1.frozen 0
    have q1 := G5.out.2.1.frozen 1
    have q2 := G5.out.2.1.frozen 2
    have q3 := G5.out.2.1.frozen 3
    have HF : Hid (BoxQ (fin4 (((w3.alloc (.cells #[.int .i64 (c / 32768)] 3)).setCell ⟨k, 3, none⟩ (.slice (some ⟨w3.heap.size, 0, none⟩) 1 1)).setCell ⟨k, 2, none⟩ (.int .i64 1)) w.heap.size (y : Int) s 1 (.slice (some ⟨w3.heap.size, 0, none⟩) 1 1)) w.heap.size (y : Int) s 1 (.slice (some ⟨w3.heap.size, 0, none⟩) 1 1) ∧ GuessOk w ⟨(y : Int), s, 1, [c / 32768]⟩ (.returned (.tuple #[.agg #[.int .i64 (y : Int), .int .i64 s, .int .i64 1, .slice (some ⟨w3.heap.size, 0, none⟩) 1 1], .bool true])) (fin4 (((w3.alloc (.cells #[.int .i64 (c / 32768)] 3)).setCell ⟨k, 3, none⟩ (.slice (some ⟨w3.heap.size, 0, none⟩) 1 1)).setCell ⟨k, 2, none⟩ (.int .i64 1)) w.heap.size (y : Int) s 1 (.slice (some ⟨w3.heap.size, 0, none⟩) 1 1))) := Lib.hid ⟨fin4q_box G5.out.2.1 _ _ _ _, _, rfl, ownsRow_off O5.out (fin4_off _ _ _ _ _ _) (fun j e s => row_no3 O5.out G5.out.2.1 (by decide) (by rw [e, s])), fin4q_below G5.out.2.2.1 (Nat.le_refl _) _ _ _ _⟩
    unfold fin4 at HF
    go_wp2
    clear d0 d1 d2 d3 r0 r1 r2 r3 q0 q1 q2 q3 e0 e1 e2 e3 g2 g3
    generalize (World.setCell (World.setCell (World.setCell (World.setCell (World.setCell (World.setCell _ _ _) _ _) _ _) _ _) _ _) _ _) = W2 at HF ⊢
    obtain ⟨r0, r1, r2, r3⟩ := HF.out.1.cells
    refine bodyPost_ret (v := .tuple #[.agg #[.int .i64 (y : Int), .int .i64 s, .int .i64 1, .slice (some ⟨w3.heap.size, 0, none⟩) 1 1], .bool true]) ?_ rfl HF.out.2
    simp [results, Tryd.results34, go_sem, r0, r1, r2, r3]


end Go.Proofs.YtngfaailbkadfaaDoor
