/- config.isPoint: what it answers over polls that are valid; memory that was there stands. -/
import Derived.Test.YtpocjmlkhophoaaGreatDoorCk2
import Derived.Deep.RegionHeld3
import Derived.Deep.QuietTactic
import Derived.BigQuiet
namespace Go.Proofs.YtpocjmlkhophoaaGreatDoor
open Go.RowKit Go.Extern.Stop Go.Stop Go.Extern

theorem box8 (w : World) (a b c d e f g h : Value) (t : TypeId) : (w.alloc (.cells #[a, b, c, d, e, f, g, h] t)).cell? ⟨w.heap.size, 0, none⟩ = some a ∧ (w.alloc (.cells #[a, b, c, d, e, f, g, h] t)).cell? ⟨w.heap.size, 1, none⟩ = some b ∧ (w.alloc (.cells #[a, b, c, d, e, f, g, h] t)).cell? ⟨w.heap.size, 2, none⟩ = some c ∧ (w.alloc (.cells #[a, b, c, d, e, f, g, h] t)).cell? ⟨w.heap.size, 3, none⟩ = some d ∧ (w.alloc (.cells #[a, b, c, d, e, f, g, h] t)).cell? ⟨w.heap.size, 4, none⟩ = some e ∧ (w.alloc (.cells #[a, b, c, d, e, f, g, h] t)).cell? ⟨w.heap.size, 5, none⟩ = some f ∧ (w.alloc (.cells #[a, b, c, d, e, f, g, h] t)).cell? ⟨w.heap.size, 6, none⟩ = some g ∧ (w.alloc (.cells #[a, b, c, d, e, f, g, h] t)).cell? ⟨w.heap.size, 7, none⟩ = some h := by
  refine ⟨?_, ?_, ?_, ?_, ?_, ?_, ?_, ?_⟩ <;> simp
theorem cw_q {r : Bool} {n a b : Int} (h : within n a b = r) (w : World) : Calls Tryz.prog 104 #[.int .i64 n, .int .i64 a, .int .i64 b] w fun e w' => e = .returned (.bool r) ∧ w' = w := (cw_any n a b w).mono fun _ _ ⟨he, hw⟩ => ⟨by rw [he, h], hw.symm⟩
/-- The eight cells of a boxed point. -/
def Box8 (w : World) (g : Nat) (k q l c d n e o : Int) : Prop := w.cell? ⟨g, 0, none⟩ = some (.int .i64 k) ∧ w.cell? ⟨g, 1, none⟩ = some (.int .i64 q) ∧ w.cell? ⟨g, 2, none⟩ = some (.int .i64 l) ∧ w.cell? ⟨g, 3, none⟩ = some (.int .i64 c) ∧ w.cell? ⟨g, 4, none⟩ = some (.int .i64 d) ∧ w.cell? ⟨g, 5, none⟩ = some (.int .i64 n) ∧ w.cell? ⟨g, 6, none⟩ = some (.int .i64 e) ∧ w.cell? ⟨g, 7, none⟩ = some (.int .i64 o)
/-- The five cells of a poll in a row. -/
def Row5 (w : World) (b off i : Nat) (a f s t v : Int) : Prop := w.cell? ⟨b, off + i * 5, none⟩ = some (.int .i64 a) ∧ w.cell? ⟨b, off + i * 5 + 1, none⟩ = some (.int .i64 f) ∧ w.cell? ⟨b, off + i * 5 + 2, none⟩ = some (.int .i64 s) ∧ w.cell? ⟨b, off + i * 5 + 3, none⟩ = some (.int .i64 t) ∧ w.cell? ⟨b, off + i * 5 + 4, none⟩ = some (.int .i64 v)
theorem keep1 {w w' : World} (hb : Below w.heap.size w w') {a : Addr} {v : Value} (h : w.cell? a = some v) : w'.cell? a = some v := (hb.cell (lt_cell h)).trans h
theorem Box8.on {w w' : World} {g : Nat} {k q l c d n e o : Int} (h : Box8 w g k q l c d n e o) (hb : Below w.heap.size w w') : Box8 w' g k q l c d n e o := ⟨keep1 hb h.1, keep1 hb h.2.1, keep1 hb h.2.2.1, keep1 hb h.2.2.2.1, keep1 hb h.2.2.2.2.1, keep1 hb h.2.2.2.2.2.1, keep1 hb h.2.2.2.2.2.2.1, keep1 hb h.2.2.2.2.2.2.2⟩
theorem Row5.on {w w' : World} {b off i : Nat} {a f s t v : Int} (h : Row5 w b off i a f s t v) (hb : Below w.heap.size w w') : Row5 w' b off i a f s t v := ⟨keep1 hb h.1, keep1 hb h.2.1, keep1 hb h.2.2.1, keep1 hb h.2.2.2.1, keep1 hb h.2.2.2.2⟩
theorem row5_of {w : World} {ao : Option Addr} {n cap : Nat} {l : List Poll} (h : LiesAt w (.slice ao n cap) l.length (pollCells l)) (i : Nat) (hi : i < l.length) : ∃ b off, ao = some ⟨b, off, none⟩ ∧ Row5 w b off i l[i].slave l[i].func l[i].start l[i].count l[i].every := by
  obtain ⟨ao', cap', e, _, hc⟩ := h
  simp only [Value.slice.injEq] at e
  obtain ⟨rfl, _, _⟩ := e
  obtain ⟨g0, g1, g2, g3, g4⟩ := pollCells_get l i hi
  obtain ⟨b, off, e0, h0⟩ := hc _ _ g0
  have at' : ∀ j u, (pollCells l)[j]? = some u → w.cell? ⟨b, off + j, none⟩ = some u := fun j u hj => by
    obtain ⟨b', off', e', h'⟩ := hc j u hj
    rw [e0] at e'
    simp only [Option.some.injEq, Addr.mk.injEq] at e'
    obtain ⟨rfl, rfl, _⟩ := e'
    exact h'
  exact ⟨b, off, e0, at' _ _ g0, by simpa [Nat.add_assoc] using at' _ _ g1, by simpa [Nat.add_assoc] using at' _ _ g2, by simpa [Nat.add_assoc] using at' _ _ g3, by simpa [Nat.add_assoc] using at' _ _ g4⟩

set_option maxRecDepth 100000 in
set_option maxHeartbeats 4000000 in
theorem point_none (k q l c d n e o : Int) (ao : Option Addr) (m cap : Nat) (w : World) (hm : m ≤ 1000000) (h0 : within q 0 ((m : Int) - 1) = false) : Calls Tryz.prog 113 #[.agg #[.int .i64 k, .int .i64 q, .int .i64 l, .int .i64 c, .int .i64 d, .int .i64 n, .int .i64 e, .int .i64 o], .slice ao m cap] w fun e' w' => e' = .returned (.bool false) ∧ Below w.heap.size w w' := by
  have HB := Lib.hid (below_new w (.cells #[.int .i64 k, .int .i64 q, .int .i64 l, .int .i64 c, .int .i64 d, .int .i64 n, .int .i64 e, .int .i64 o] 62))
  have K1 : Hid (Box8 (w.alloc (.cells #[.int .i64 k, .int .i64 q, .int .i64 l, .int .i64 c, .int .i64 d, .int .i64 n, .int .i64 e, .int .i64 o] 62)) w.heap.size k q l c d n e o) := Lib.hid (box8 w _ _ _ _ _ _ _ _ 62)
  have hw1 : IntKind.i64.wrap ((m : Int) - 1) = (m : Int) - 1 := by rw [IntKind.wrap_i64]; omega
  go_enter Tryz.func113, Tryz.ntmps113
  go_wp2
  generalize hg : w.heap.size = g at K1 ⊢
  generalize hw0 : w.alloc (.cells #[.int .i64 k, .int .i64 q, .int .i64 l, .int .i64 c, .int .i64 d, .int .i64 n, .int .i64 e, .int .i64 o] 62) = w1 at *
  obtain ⟨k0, k1, k2, k3, k4, k5, k6, k7⟩ := K1.out
  go_quiet (first | (go_at_call 104; exact Calls.quiet_of_same (cw_q h0 _)))
  go_wp2
  go_ret
  exact ⟨rfl, below_drewN HB.out _⟩

set_option maxRecDepth 100000 in
set_option maxHeartbeats 4000000 in
theorem point_place (k l c d n e o a f s t v : Int) (b off i m cap : Nat) (w : World) (hm : m ≤ 1000000) (hi : i < m) (R : Row5 w b off i a f s t v) (_ht0 : 0 ≤ t) (_ht1 : t ≤ 1000) (h1 : within l 0 (t - 1) = false) : Calls Tryz.prog 113 #[.agg #[.int .i64 k, .int .i64 (i : Int), .int .i64 l, .int .i64 c, .int .i64 d, .int .i64 n, .int .i64 e, .int .i64 o], .slice (some ⟨b, off, none⟩) m cap] w fun e' w' => e' = .returned (.bool false) ∧ Below w.heap.size w w' := by
  obtain ⟨q, hq⟩ : ∃ q : Int, q = (i : Int) := ⟨_, rfl⟩
  have h0 : within (i : Int) 0 ((m : Int) - 1) = true := by simp [within]; omega
  have HB := Lib.hid (below_new w (.cells #[.int .i64 k, .int .i64 (i : Int), .int .i64 l, .int .i64 c, .int .i64 d, .int .i64 n, .int .i64 e, .int .i64 o] 62))
  have K1 : Hid (Box8 (w.alloc (.cells #[.int .i64 k, .int .i64 (i : Int), .int .i64 l, .int .i64 c, .int .i64 d, .int .i64 n, .int .i64 e, .int .i64 o] 62)) w.heap.size k (i : Int) l c d n e o) := Lib.hid (box8 w _ _ _ _ _ _ _ _ 62)
  have R1 := Lib.hid (R.on HB.out)
  have hi1 : (i : Int) < (m : Int) := by omega
  have hi0 : (0 : Int) ≤ (i : Int) := by omega
  clear R hq
  have hw1 : IntKind.i64.wrap ((m : Int) - 1) = (m : Int) - 1 := by rw [IntKind.wrap_i64]; omega
  have hw2 : IntKind.i64.wrap (t - 1) = t - 1 := by rw [IntKind.wrap_i64]; omega
  go_enter Tryz.func113, Tryz.ntmps113
  go_wp2
  generalize hg : w.heap.size = g at K1 ⊢
  generalize w.alloc (.cells #[.int .i64 k, .int .i64 (i : Int), .int .i64 l, .int .i64 c, .int .i64 d, .int .i64 n, .int .i64 e, .int .i64 o] 62) = w1 at *
  obtain ⟨k0, k1, k2, k3, k4, k5, k6, k7⟩ := K1.out
  obtain ⟨p0, p1, p2, p3, p4⟩ := R1.out
  go_quiet (first | (go_at_call 104; exact Calls.quiet_of_same (cw_q (by assumption) _)))
  go_wp2
  go_ret
  exact ⟨rfl, below_drewN HB.out _⟩

set_option maxRecDepth 100000 in
set_option maxHeartbeats 4000000 in
theorem point_class (k l c d n e o a f s t v : Int) (b off i m cap : Nat) (w : World) (hm : m ≤ 1000000) (hi : i < m) (R : Row5 w b off i a f s t v) (_ht0 : 0 ≤ t) (_ht1 : t ≤ 1000) (h1 : within l 0 (t - 1) = true) (h2 : within c 0 3 = false) : Calls Tryz.prog 113 #[.agg #[.int .i64 k, .int .i64 (i : Int), .int .i64 l, .int .i64 c, .int .i64 d, .int .i64 n, .int .i64 e, .int .i64 o], .slice (some ⟨b, off, none⟩) m cap] w fun e' w' => e' = .returned (.bool false) ∧ Below w.heap.size w w' := by
  obtain ⟨q, hq⟩ : ∃ q : Int, q = (i : Int) := ⟨_, rfl⟩
  have h0 : within (i : Int) 0 ((m : Int) - 1) = true := by simp [within]; omega
  have HB := Lib.hid (below_new w (.cells #[.int .i64 k, .int .i64 (i : Int), .int .i64 l, .int .i64 c, .int .i64 d, .int .i64 n, .int .i64 e, .int .i64 o] 62))
  have K1 : Hid (Box8 (w.alloc (.cells #[.int .i64 k, .int .i64 (i : Int), .int .i64 l, .int .i64 c, .int .i64 d, .int .i64 n, .int .i64 e, .int .i64 o] 62)) w.heap.size k (i : Int) l c d n e o) := Lib.hid (box8 w _ _ _ _ _ _ _ _ 62)
  have R1 := Lib.hid (R.on HB.out)
  have hi1 : (i : Int) < (m : Int) := by omega
  have hi0 : (0 : Int) ≤ (i : Int) := by omega
  clear R hq
  have hw1 : IntKind.i64.wrap ((m : Int) - 1) = (m : Int) - 1 := by rw [IntKind.wrap_i64]; omega
  have hw2 : IntKind.i64.wrap (t - 1) = t - 1 := by rw [IntKind.wrap_i64]; omega
  go_enter Tryz.func113, Tryz.ntmps113
  go_wp2
  generalize hg : w.heap.size = g at K1 ⊢
  generalize w.alloc (.cells #[.int .i64 k, .int .i64 (i : Int), .int .i64 l, .int .i64 c, .int .i64 d, .int .i64 n, .int .i64 e, .int .i64 o] 62) = w1 at *
  obtain ⟨k0, k1, k2, k3, k4, k5, k6, k7⟩ := K1.out
  obtain ⟨p0, p1, p2, p3, p4⟩ := R1.out
  go_quiet (first | (go_at_call 104; exact Calls.quiet_of_same (cw_q (by assumption) _)))
  go_wp2
  go_ret
  exact ⟨rfl, below_drewN HB.out _⟩

set_option maxRecDepth 100000 in
set_option maxHeartbeats 4000000 in
theorem point_may (k l c d n e o a f s t v : Int) (b off i m cap : Nat) (w : World) (hm : m ≤ 1000000) (hi : i < m) (R : Row5 w b off i a f s t v) (_ht0 : 0 ≤ t) (_ht1 : t ≤ 1000) (h1 : within l 0 (t - 1) = true) (h2 : within c 0 3 = true) (h3 : mayN d n e o = false) : Calls Tryz.prog 113 #[.agg #[.int .i64 k, .int .i64 (i : Int), .int .i64 l, .int .i64 c, .int .i64 d, .int .i64 n, .int .i64 e, .int .i64 o], .slice (some ⟨b, off, none⟩) m cap] w fun e' w' => e' = .returned (.bool false) ∧ Below w.heap.size w w' := by
  obtain ⟨q, hq⟩ : ∃ q : Int, q = (i : Int) := ⟨_, rfl⟩
  have h0 : within (i : Int) 0 ((m : Int) - 1) = true := by simp [within]; omega
  have HB := Lib.hid (below_new w (.cells #[.int .i64 k, .int .i64 (i : Int), .int .i64 l, .int .i64 c, .int .i64 d, .int .i64 n, .int .i64 e, .int .i64 o] 62))
  have K1 : Hid (Box8 (w.alloc (.cells #[.int .i64 k, .int .i64 (i : Int), .int .i64 l, .int .i64 c, .int .i64 d, .int .i64 n, .int .i64 e, .int .i64 o] 62)) w.heap.size k (i : Int) l c d n e o) := Lib.hid (box8 w _ _ _ _ _ _ _ _ 62)
  have R1 := Lib.hid (R.on HB.out)
  have hi1 : (i : Int) < (m : Int) := by omega
  have hi0 : (0 : Int) ≤ (i : Int) := by omega
  clear R hq
  have hw1 : IntKind.i64.wrap ((m : Int) - 1) = (m : Int) - 1 := by rw [IntKind.wrap_i64]; omega
  have hw2 : IntKind.i64.wrap (t - 1) = t - 1 := by rw [IntKind.wrap_i64]; omega
  go_enter Tryz.func113, Tryz.ntmps113
  go_wp2
  generalize hg : w.heap.size = g at K1 ⊢
  generalize w.alloc (.cells #[.int .i64 k, .int .i64 (i : Int), .int .i64 l, .int .i64 c, .int .i64 d, .int .i64 n, .int .i64 e, .int .i64 o] 62) = w1 at *
  refine wp_region_held_drew (S := fun w' => (w'.cell? ⟨g, 0, none⟩ = some (.int .i64 k) ∧ w'.cell? ⟨g, 1, none⟩ = some (.int .i64 (i : Int)) ∧ w'.cell? ⟨g, 2, none⟩ = some (.int .i64 l) ∧ w'.cell? ⟨g, 3, none⟩ = some (.int .i64 c) ∧ w'.cell? ⟨g, 4, none⟩ = some (.int .i64 d) ∧ w'.cell? ⟨g, 5, none⟩ = some (.int .i64 n) ∧ w'.cell? ⟨g, 6, none⟩ = some (.int .i64 e) ∧ w'.cell? ⟨g, 7, none⟩ = some (.int .i64 o)) ∧ w'.cell? ⟨b, off + i * 5, none⟩ = some (.int .i64 a) ∧ w'.cell? ⟨b, off + i * 5 + 1, none⟩ = some (.int .i64 f) ∧ w'.cell? ⟨b, off + i * 5 + 2, none⟩ = some (.int .i64 s) ∧ w'.cell? ⟨b, off + i * 5 + 3, none⟩ = some (.int .i64 t) ∧ w'.cell? ⟨b, off + i * 5 + 4, none⟩ = some (.int .i64 v)) (by kernel_rfl) ⟨K1.out, R1.out⟩ (fun hHeld => ?_)
  refine wpAnyH_take (i := 0) (oi := { dst := some 5, op := Op.fieldAddr 62 (Operand.tmp 2) 1, type := 0, pos := "check.go:129", after := #[], guard := none }) (v := ?_) rfl (by kernel_rfl) (by kernel_rfl) (by kernel_rfl) (fun _ _ _ h => h) (Or.inl ⟨by rfl, ?_⟩) hHeld ?_
  rotate_left
  · (intro w hSw; (try dsimp only at hSw); go_simp; try with_reducible rfl)
  (try simp only [Act.put, List.setIfInBounds_toArray, List.set_cons_zero, List.set_cons_succ])
  refine wpAnyH_take (i := 1) (oi := { dst := some 6, op := Op.load 3 (Operand.tmp 5), type := 3, pos := "check.go:129", after := #[{ on := 0, ground := Ground.data }], guard := none }) (v := ?_) rfl (by kernel_rfl) (by kernel_rfl) (by kernel_rfl) (fun _ _ _ h => h) (Or.inl ⟨by rfl, ?_⟩) hHeld ?_
  rotate_left
  · (intro w hSw; (try dsimp only at hSw); go_simp; try with_reducible rfl)
  (try simp only [Act.put, List.setIfInBounds_toArray, List.set_cons_zero, List.set_cons_succ])
  refine wpAnyH_take (i := 2) (oi := { dst := some 7, op := Op.move (Operand.tmp 1), type := 24, pos := "check.go:129", after := #[], guard := none }) (v := ?_) rfl (by kernel_rfl) (by kernel_rfl) (by kernel_rfl) (fun _ _ _ h => h) (Or.inl ⟨by rfl, ?_⟩) hHeld ?_
  rotate_left
  · (intro w hSw; (try dsimp only at hSw); go_simp; try with_reducible rfl)
  (try simp only [Act.put, List.setIfInBounds_toArray, List.set_cons_zero, List.set_cons_succ])
  refine wpAnyH_take (i := 3) (oi := { dst := some 8, op := Op.call { callee := Callee.builtin Builtin.len, args := #[Operand.tmp 7], argTypes := #[24] }, type := 3, pos := "check.go:129", after := #[{ on := 2, ground := Ground.data }], guard := none }) (v := ?_) rfl (by kernel_rfl) (by kernel_rfl) (by kernel_rfl) (fun _ _ _ h => h) (Or.inl ⟨by rfl, ?_⟩) hHeld ?_
  rotate_left
  · (intro w hSw; (try dsimp only at hSw); go_simp; try with_reducible rfl)
  (try simp only [Act.put, List.setIfInBounds_toArray, List.set_cons_zero, List.set_cons_succ])
  refine wpAnyH_take (i := 4) (oi := { dst := some 9, op := Op.binOp BinOp.sub 3 (Operand.tmp 8) (Operand.const (Value.int IntKind.i64 1)) 3, type := 3, pos := "check.go:129", after := #[{ on := 3, ground := Ground.data }], guard := none }) (v := ?_) rfl (by kernel_rfl) (by kernel_rfl) (by kernel_rfl) (fun _ _ _ h => h) (Or.inl ⟨by rfl, ?_⟩) hHeld ?_
  rotate_left
  · (intro w hSw; (try dsimp only at hSw); go_simp; try with_reducible rfl)
  (try simp only [Act.put, List.setIfInBounds_toArray, List.set_cons_zero, List.set_cons_succ])
  refine wpAnyH_ready (rs := [5]) (by kernel_rfl) (by simp) ?_
  refine AllReadyH.cons (o := { dst := some 10, op := Op.call { callee := Callee.value (Operand.func 104), args := #[Operand.tmp 6, Operand.const (Value.int IntKind.i64 0), Operand.tmp 9], argTypes := #[3, 3, 3] }, type := 4, pos := "check.go:129", after := #[{ on := 1, ground := Ground.data }, { on := 4, ground := Ground.data }], guard := none }) rfl (fun K hK => ?_) AllReadyH.nil
  go_simp
  refine (cw_q h0 _).mono ?_; rintro e' w9 ⟨rfl, hh⟩; subst hh; simp only []
  refine hK.out _ _ hHeld (fun hHeld => ?_)
  clear hK K
  (try simp only [Act.put, List.setIfInBounds_toArray, List.set_cons_zero, List.set_cons_succ])
  refine wpAnyH_take (i := 6) (oi := { dst := some 11, op := Op.move (Operand.tmp 10), type := 4, pos := "check.go:129", after := #[{ on := 5, ground := Ground.data }, { on := 5, ground := Ground.chain }], guard := none }) (v := ?_) rfl (by kernel_rfl) (by kernel_rfl) (by kernel_rfl) (fun _ _ _ h => h) (Or.inl ⟨by rfl, ?_⟩) hHeld ?_
  rotate_left
  · (intro w hSw; (try dsimp only at hSw); go_simp; try with_reducible rfl)
  (try simp only [Act.put, List.setIfInBounds_toArray, List.set_cons_zero, List.set_cons_succ])
  refine wpAnyH_take (i := 7) (oi := { dst := some 12, op := Op.fieldAddr 62 (Operand.tmp 2) 2, type := 0, pos := "check.go:129", after := #[{ on := 6, ground := Ground.guard }], guard := some (6, true) }) (v := ?_) rfl (by kernel_rfl) (by kernel_rfl) (by kernel_rfl) (fun _ _ _ h => h) (Or.inl ⟨by rfl, ?_⟩) hHeld ?_
  rotate_left
  · (intro w hSw; (try dsimp only at hSw); go_simp; try with_reducible rfl)
  (try simp only [Act.put, List.setIfInBounds_toArray, List.set_cons_zero, List.set_cons_succ])
  refine wpAnyH_take (i := 8) (oi := { dst := some 13, op := Op.load 3 (Operand.tmp 12), type := 3, pos := "check.go:129", after := #[{ on := 7, ground := Ground.data }, { on := 6, ground := Ground.guard }], guard := some (6, true) }) (v := ?_) rfl (by kernel_rfl) (by kernel_rfl) (by kernel_rfl) (fun _ _ _ h => h) (Or.inl ⟨by rfl, ?_⟩) hHeld ?_
  rotate_left
  · (intro w hSw; (try dsimp only at hSw); go_simp; try with_reducible rfl)
  (try simp only [Act.put, List.setIfInBounds_toArray, List.set_cons_zero, List.set_cons_succ])
  refine wpAnyH_take (i := 9) (oi := { dst := some 14, op := Op.move (Operand.tmp 1), type := 24, pos := "check.go:129", after := #[{ on := 6, ground := Ground.guard }], guard := some (6, true) }) (v := ?_) rfl (by kernel_rfl) (by kernel_rfl) (by kernel_rfl) (fun _ _ _ h => h) (Or.inl ⟨by rfl, ?_⟩) hHeld ?_
  rotate_left
  · (intro w hSw; (try dsimp only at hSw); go_simp; try with_reducible rfl)
  (try simp only [Act.put, List.setIfInBounds_toArray, List.set_cons_zero, List.set_cons_succ])
  refine wpAnyH_take (i := 10) (oi := { dst := some 15, op := Op.fieldAddr 62 (Operand.tmp 2) 1, type := 0, pos := "check.go:129", after := #[{ on := 6, ground := Ground.guard }], guard := some (6, true) }) (v := ?_) rfl (by kernel_rfl) (by kernel_rfl) (by kernel_rfl) (fun _ _ _ h => h) (Or.inl ⟨by rfl, ?_⟩) hHeld ?_
  rotate_left
  · (intro w hSw; (try dsimp only at hSw); go_simp; try with_reducible rfl)
  (try simp only [Act.put, List.setIfInBounds_toArray, List.set_cons_zero, List.set_cons_succ])
  refine wpAnyH_take (i := 11) (oi := { dst := some 16, op := Op.load 3 (Operand.tmp 15), type := 3, pos := "check.go:129", after := #[{ on := 10, ground := Ground.data }, { on := 6, ground := Ground.guard }], guard := some (6, true) }) (v := ?_) rfl (by kernel_rfl) (by kernel_rfl) (by kernel_rfl) (fun _ _ _ h => h) (Or.inl ⟨by rfl, ?_⟩) hHeld ?_
  rotate_left
  · (intro w hSw; (try dsimp only at hSw); go_simp; try with_reducible rfl)
  (try simp only [Act.put, List.setIfInBounds_toArray, List.set_cons_zero, List.set_cons_succ])
  refine wpAnyH_take (i := 12) (oi := { dst := some 17, op := Op.indexAddr 24 (Operand.tmp 14) (Operand.tmp 16), type := 0, pos := "check.go:129", after := #[{ on := 9, ground := Ground.data }, { on := 11, ground := Ground.data }, { on := 6, ground := Ground.guard }], guard := some (6, true) }) (v := ?_) rfl (by kernel_rfl) (by kernel_rfl) (by kernel_rfl) (fun _ _ _ h => h) (Or.inl ⟨by rfl, ?_⟩) hHeld ?_
  rotate_left
  · (intro w hSw; (try dsimp only at hSw); go_simp; try with_reducible rfl)
  (try simp only [Act.put, List.setIfInBounds_toArray, List.set_cons_zero, List.set_cons_succ])
  refine wpAnyH_take (i := 13) (oi := { dst := some 18, op := Op.fieldAddr 68 (Operand.tmp 17) 3, type := 0, pos := "check.go:129", after := #[{ on := 12, ground := Ground.data }, { on := 6, ground := Ground.guard }], guard := some (6, true) }) (v := ?_) rfl (by kernel_rfl) (by kernel_rfl) (by kernel_rfl) (fun _ _ _ h => h) (Or.inl ⟨by rfl, ?_⟩) hHeld ?_
  rotate_left
  · (intro w hSw; (try dsimp only at hSw); go_simp; try with_reducible rfl)
  (try simp only [Act.put, List.setIfInBounds_toArray, List.set_cons_zero, List.set_cons_succ])
  refine wpAnyH_take (i := 14) (oi := { dst := some 19, op := Op.load 3 (Operand.tmp 18), type := 3, pos := "check.go:129", after := #[{ on := 13, ground := Ground.data }, { on := 6, ground := Ground.guard }], guard := some (6, true) }) (v := ?_) rfl (by kernel_rfl) (by kernel_rfl) (by kernel_rfl) (fun _ _ _ h => h) (Or.inl ⟨by rfl, ?_⟩) hHeld ?_
  rotate_left
  · (intro w hSw; (try dsimp only at hSw); go_simp; try with_reducible rfl)
  (try simp only [Act.put, List.setIfInBounds_toArray, List.set_cons_zero, List.set_cons_succ])
  refine wpAnyH_take (i := 15) (oi := { dst := some 20, op := Op.binOp BinOp.sub 3 (Operand.tmp 19) (Operand.const (Value.int IntKind.i64 1)) 3, type := 3, pos := "check.go:129", after := #[{ on := 14, ground := Ground.data }, { on := 6, ground := Ground.guard }], guard := some (6, true) }) (v := ?_) rfl (by kernel_rfl) (by kernel_rfl) (by kernel_rfl) (fun _ _ _ h => h) (Or.inl ⟨by rfl, ?_⟩) hHeld ?_
  rotate_left
  · (intro w hSw; (try dsimp only at hSw); go_simp; try with_reducible rfl)
  (try simp only [Act.put, List.setIfInBounds_toArray, List.set_cons_zero, List.set_cons_succ])
  refine wpAnyH_ready (rs := [16]) (by kernel_rfl) (by simp) ?_
  refine AllReadyH.cons (o := { dst := some 21, op := Op.call { callee := Callee.value (Operand.func 104), args := #[Operand.tmp 13, Operand.const (Value.int IntKind.i64 0), Operand.tmp 20], argTypes := #[3, 3, 3] }, type := 4, pos := "check.go:129", after := #[{ on := 8, ground := Ground.data }, { on := 15, ground := Ground.data }, { on := 6, ground := Ground.chain }, { on := 6, ground := Ground.guard }], guard := some (6, true) }) rfl (fun K hK => ?_) AllReadyH.nil
  go_simp
  refine (cw_q h1 _).mono ?_; rintro e' w9 ⟨rfl, hh⟩; subst hh; simp only []
  refine hK.out _ _ hHeld (fun hHeld => ?_)
  clear hK K
  (try simp only [Act.put, List.setIfInBounds_toArray, List.set_cons_zero, List.set_cons_succ])
  refine wpAnyH_take (i := 17) (oi := { dst := some 22, op := Op.pick (Operand.tmp 11) (Operand.tmp 21) (Operand.const (Value.bool false)), type := 4, pos := "check.go:129", after := #[{ on := 6, ground := Ground.data }, { on := 16, ground := Ground.data }], guard := none }) (v := ?_) rfl (by kernel_rfl) (by kernel_rfl) (by kernel_rfl) (fun _ _ _ h => h) (Or.inl ⟨by rfl, ?_⟩) hHeld ?_
  rotate_left
  · (intro w hSw; (try dsimp only at hSw); go_simp; try with_reducible rfl)
  (try simp only [Act.put, List.setIfInBounds_toArray, List.set_cons_zero, List.set_cons_succ])
  refine wpAnyH_take (i := 18) (oi := { dst := some 23, op := Op.move (Operand.tmp 22), type := 4, pos := "check.go:129", after := #[{ on := 17, ground := Ground.data }, { on := 16, ground := Ground.chain }], guard := none }) (v := ?_) rfl (by kernel_rfl) (by kernel_rfl) (by kernel_rfl) (fun _ _ _ h => h) (Or.inl ⟨by rfl, ?_⟩) hHeld ?_
  rotate_left
  · (intro w hSw; (try dsimp only at hSw); go_simp; try with_reducible rfl)
  (try simp only [Act.put, List.setIfInBounds_toArray, List.set_cons_zero, List.set_cons_succ])
  refine wpAnyH_take (i := 19) (oi := { dst := some 24, op := Op.fieldAddr 62 (Operand.tmp 2) 3, type := 0, pos := "check.go:129", after := #[{ on := 18, ground := Ground.guard }], guard := some (18, true) }) (v := ?_) rfl (by kernel_rfl) (by kernel_rfl) (by kernel_rfl) (fun _ _ _ h => h) (Or.inl ⟨by rfl, ?_⟩) hHeld ?_
  rotate_left
  · (intro w hSw; (try dsimp only at hSw); go_simp; try with_reducible rfl)
  (try simp only [Act.put, List.setIfInBounds_toArray, List.set_cons_zero, List.set_cons_succ])
  refine wpAnyH_take (i := 20) (oi := { dst := some 25, op := Op.load 3 (Operand.tmp 24), type := 3, pos := "check.go:129", after := #[{ on := 19, ground := Ground.data }, { on := 18, ground := Ground.guard }], guard := some (18, true) }) (v := ?_) rfl (by kernel_rfl) (by kernel_rfl) (by kernel_rfl) (fun _ _ _ h => h) (Or.inl ⟨by rfl, ?_⟩) hHeld ?_
  rotate_left
  · (intro w hSw; (try dsimp only at hSw); go_simp; try with_reducible rfl)
  (try simp only [Act.put, List.setIfInBounds_toArray, List.set_cons_zero, List.set_cons_succ])
  refine wpAnyH_ready (rs := [21]) (by kernel_rfl) (by simp) ?_
  refine AllReadyH.cons (o := { dst := some 26, op := Op.call { callee := Callee.value (Operand.func 104), args := #[Operand.tmp 25, Operand.const (Value.int IntKind.i64 0), Operand.const (Value.int IntKind.i64 3)], argTypes := #[3, 3, 3] }, type := 4, pos := "check.go:130", after := #[{ on := 20, ground := Ground.data }, { on := 18, ground := Ground.chain }, { on := 18, ground := Ground.guard }], guard := some (18, true) }) rfl (fun K hK => ?_) AllReadyH.nil
  go_simp
  refine (cw_q h2 _).mono ?_; rintro e' w9 ⟨rfl, hh⟩; subst hh; simp only []
  refine hK.out _ _ hHeld (fun hHeld => ?_)
  clear hK K
  (try simp only [Act.put, List.setIfInBounds_toArray, List.set_cons_zero, List.set_cons_succ])
  refine wpAnyH_take (i := 22) (oi := { dst := some 27, op := Op.pick (Operand.tmp 23) (Operand.tmp 26) (Operand.const (Value.bool false)), type := 4, pos := "check.go:129", after := #[{ on := 18, ground := Ground.data }, { on := 21, ground := Ground.data }], guard := none }) (v := ?_) rfl (by kernel_rfl) (by kernel_rfl) (by kernel_rfl) (fun _ _ _ h => h) (Or.inl ⟨by rfl, ?_⟩) hHeld ?_
  rotate_left
  · (intro w hSw; (try dsimp only at hSw); go_simp; try with_reducible rfl)
  (try simp only [Act.put, List.setIfInBounds_toArray, List.set_cons_zero, List.set_cons_succ])
  refine wpAnyH_take (i := 23) (oi := { dst := some 28, op := Op.move (Operand.tmp 27), type := 4, pos := "check.go:129", after := #[{ on := 22, ground := Ground.data }, { on := 21, ground := Ground.chain }], guard := none }) (v := ?_) rfl (by kernel_rfl) (by kernel_rfl) (by kernel_rfl) (fun _ _ _ h => h) (Or.inl ⟨by rfl, ?_⟩) hHeld ?_
  rotate_left
  · (intro w hSw; (try dsimp only at hSw); go_simp; try with_reducible rfl)
  (try simp only [Act.put, List.setIfInBounds_toArray, List.set_cons_zero, List.set_cons_succ])
  refine wpAnyH_take (i := 24) (oi := { dst := some 29, op := Op.load 62 (Operand.tmp 2), type := 62, pos := "check.go:129", after := #[{ on := 23, ground := Ground.guard }], guard := some (23, true) }) (v := ?_) rfl (by kernel_rfl) (by kernel_rfl) (by kernel_rfl) (fun _ _ _ h => h) (Or.inl ⟨by rfl, ?_⟩) hHeld ?_
  rotate_left
  · (intro w hSw; (try dsimp only at hSw); go_simp; try with_reducible rfl)
  (try simp only [Act.put, List.setIfInBounds_toArray, List.set_cons_zero, List.set_cons_succ])
  refine wpAnyH_ready (rs := [25]) (by kernel_rfl) (by simp) ?_
  refine AllReadyH.cons (o := { dst := some 30, op := Op.call { callee := Callee.value (Operand.func 136), args := #[Operand.tmp 29], argTypes := #[62] }, type := 4, pos := "check.go:130", after := #[{ on := 24, ground := Ground.data }, { on := 23, ground := Ground.chain }, { on := 23, ground := Ground.guard }], guard := some (23, true) }) rfl (fun K hK => ?_) AllReadyH.nil
  go_simp
  refine (may_any _ _ _ _ _ _ _ _ _).mono ?_; rintro e' w3 ⟨rfl, hh⟩; have HB3 := Lib.hid ((below_drewN HB.out 1).trans (hh.mono HB.out.size)); have K3 := Lib.hid (Box8.on (w := w1.drew) K1.out hh); have R3 := Lib.hid (Row5.on (w := w1.drew) R1.out hh); clear hh hHeld; rw [h3]; simp only []
  refine hK.out _ _ ⟨K3.out, R3.out⟩ (fun hHeld => ?_)
  clear hK K
  (try simp only [Act.put, List.setIfInBounds_toArray, List.set_cons_zero, List.set_cons_succ])
  refine wpAnyH_take (i := 26) (oi := { dst := some 31, op := Op.pick (Operand.tmp 28) (Operand.tmp 30) (Operand.const (Value.bool false)), type := 4, pos := "check.go:129", after := #[{ on := 23, ground := Ground.data }, { on := 25, ground := Ground.data }], guard := none }) (v := ?_) rfl (by kernel_rfl) (by kernel_rfl) (by kernel_rfl) (fun _ _ _ h => h) (Or.inl ⟨by rfl, ?_⟩) hHeld ?_
  rotate_left
  · (intro w hSw; (try dsimp only at hSw); go_simp; try with_reducible rfl)
  (try simp only [Act.put, List.setIfInBounds_toArray, List.set_cons_zero, List.set_cons_succ])
  refine wpAnyH_take (i := 27) (oi := { dst := some 32, op := Op.move (Operand.tmp 31), type := 4, pos := "check.go:129", after := #[{ on := 26, ground := Ground.data }, { on := 25, ground := Ground.chain }], guard := none }) (v := ?_) rfl (by kernel_rfl) (by kernel_rfl) (by kernel_rfl) (fun _ _ _ h => h) (Or.inl ⟨by rfl, ?_⟩) hHeld ?_
  rotate_left
  · (intro w hSw; (try dsimp only at hSw); go_simp; try with_reducible rfl)
  (try simp only [Act.put, List.setIfInBounds_toArray, List.set_cons_zero, List.set_cons_succ])
  refine wpAnyH_take (i := 28) (oi := { dst := some 33, op := Op.load 62 (Operand.tmp 2), type := 62, pos := "check.go:129", after := #[{ on := 27, ground := Ground.guard }], guard := some (27, true) }) (v := undef) rfl (by kernel_rfl) (by kernel_rfl) (by kernel_rfl) (fun _ _ _ h => h) (Or.inr ⟨by rfl, rfl⟩) hHeld ?_
  (try simp only [Act.put, List.setIfInBounds_toArray, List.set_cons_zero, List.set_cons_succ])
  refine wpAnyH_take (i := 29) (oi := { dst := some 34, op := Op.move (Operand.tmp 1), type := 24, pos := "check.go:129", after := #[{ on := 27, ground := Ground.guard }], guard := some (27, true) }) (v := undef) rfl (by kernel_rfl) (by kernel_rfl) (by kernel_rfl) (fun _ _ _ h => h) (Or.inr ⟨by rfl, rfl⟩) hHeld ?_
  (try simp only [Act.put, List.setIfInBounds_toArray, List.set_cons_zero, List.set_cons_succ])
  refine wpAnyH_take (i := 30) (oi := { dst := some 35, op := Op.fieldAddr 62 (Operand.tmp 2) 1, type := 0, pos := "check.go:129", after := #[{ on := 27, ground := Ground.guard }], guard := some (27, true) }) (v := undef) rfl (by kernel_rfl) (by kernel_rfl) (by kernel_rfl) (fun _ _ _ h => h) (Or.inr ⟨by rfl, rfl⟩) hHeld ?_
  (try simp only [Act.put, List.setIfInBounds_toArray, List.set_cons_zero, List.set_cons_succ])
  refine wpAnyH_take (i := 31) (oi := { dst := some 36, op := Op.load 3 (Operand.tmp 35), type := 3, pos := "check.go:129", after := #[{ on := 30, ground := Ground.data }, { on := 27, ground := Ground.guard }], guard := some (27, true) }) (v := undef) rfl (by kernel_rfl) (by kernel_rfl) (by kernel_rfl) (fun _ _ _ h => h) (Or.inr ⟨by rfl, rfl⟩) hHeld ?_
  (try simp only [Act.put, List.setIfInBounds_toArray, List.set_cons_zero, List.set_cons_succ])
  refine wpAnyH_take (i := 32) (oi := { dst := some 37, op := Op.indexAddr 24 (Operand.tmp 34) (Operand.tmp 36), type := 0, pos := "check.go:129", after := #[{ on := 29, ground := Ground.data }, { on := 31, ground := Ground.data }, { on := 27, ground := Ground.guard }], guard := some (27, true) }) (v := undef) rfl (by kernel_rfl) (by kernel_rfl) (by kernel_rfl) (fun _ _ _ h => h) (Or.inr ⟨by rfl, rfl⟩) hHeld ?_
  (try simp only [Act.put, List.setIfInBounds_toArray, List.set_cons_zero, List.set_cons_succ])
  refine wpAnyH_take (i := 33) (oi := { dst := some 38, op := Op.load 68 (Operand.tmp 37), type := 68, pos := "check.go:129", after := #[{ on := 32, ground := Ground.data }, { on := 27, ground := Ground.guard }], guard := some (27, true) }) (v := undef) rfl (by kernel_rfl) (by kernel_rfl) (by kernel_rfl) (fun _ _ _ h => h) (Or.inr ⟨by rfl, rfl⟩) hHeld ?_
  (try simp only [Act.put, List.setIfInBounds_toArray, List.set_cons_zero, List.set_cons_succ])
  refine wpAnyH_take (i := 34) (oi := { dst := some 39, op := Op.call { callee := Callee.value (Operand.func 137), args := #[Operand.tmp 33, Operand.tmp 38], argTypes := #[62, 68] }, type := 4, pos := "check.go:130", after := #[{ on := 28, ground := Ground.data }, { on := 33, ground := Ground.data }, { on := 27, ground := Ground.chain }, { on := 27, ground := Ground.guard }], guard := some (27, true) }) (v := undef) rfl (by kernel_rfl) (by kernel_rfl) (by kernel_rfl) (fun _ _ _ h => h) (Or.inr ⟨by rfl, rfl⟩) hHeld ?_
  (try simp only [Act.put, List.setIfInBounds_toArray, List.set_cons_zero, List.set_cons_succ])
  refine wpAnyH_take (i := 35) (oi := { dst := some 40, op := Op.pick (Operand.tmp 32) (Operand.tmp 39) (Operand.const (Value.bool false)), type := 4, pos := "check.go:129", after := #[{ on := 27, ground := Ground.data }, { on := 34, ground := Ground.data }], guard := none }) (v := ?_) rfl (by kernel_rfl) (by kernel_rfl) (by kernel_rfl) (fun _ _ _ h => h) (Or.inl ⟨by rfl, ?_⟩) hHeld ?_
  rotate_left
  · (intro w hSw; (try dsimp only at hSw); go_simp; try with_reducible rfl)
  (try simp only [Act.put, List.setIfInBounds_toArray, List.set_cons_zero, List.set_cons_succ])
  refine wpAnyH_take (i := 36) (oi := { dst := some 4, op := Op.assign (Operand.tmp 40), type := 4, pos := "check.go:129", after := #[{ on := 35, ground := Ground.data }, { on := 34, ground := Ground.chain }, { on := 0, ground := Ground.phase }, { on := 1, ground := Ground.phase }, { on := 2, ground := Ground.phase }, { on := 3, ground := Ground.phase }, { on := 4, ground := Ground.phase }, { on := 5, ground := Ground.phase }, { on := 6, ground := Ground.phase }, { on := 7, ground := Ground.phase }, { on := 8, ground := Ground.phase }, { on := 9, ground := Ground.phase }, { on := 10, ground := Ground.phase }, { on := 11, ground := Ground.phase }, { on := 12, ground := Ground.phase }, { on := 13, ground := Ground.phase }, { on := 14, ground := Ground.phase }, { on := 15, ground := Ground.phase }, { on := 16, ground := Ground.phase }, { on := 17, ground := Ground.phase }, { on := 18, ground := Ground.phase }, { on := 19, ground := Ground.phase }, { on := 20, ground := Ground.phase }, { on := 21, ground := Ground.phase }, { on := 22, ground := Ground.phase }, { on := 23, ground := Ground.phase }, { on := 24, ground := Ground.phase }, { on := 25, ground := Ground.phase }, { on := 26, ground := Ground.phase }, { on := 27, ground := Ground.phase }, { on := 28, ground := Ground.phase }, { on := 29, ground := Ground.phase }, { on := 30, ground := Ground.phase }, { on := 31, ground := Ground.phase }, { on := 32, ground := Ground.phase }, { on := 33, ground := Ground.phase }, { on := 34, ground := Ground.phase }, { on := 35, ground := Ground.phase }], guard := none }) (v := ?_) rfl (by kernel_rfl) (by kernel_rfl) (by kernel_rfl) (fun _ _ _ h => h) (Or.inl ⟨by rfl, ?_⟩) hHeld ?_
  rotate_left
  · (intro w hSw; (try dsimp only at hSw); go_simp; try with_reducible rfl)
  (try simp only [Act.put, List.setIfInBounds_toArray, List.set_cons_zero, List.set_cons_succ])
  refine wpAnyH_done (by kernel_rfl) ?_ _
  go_wp2
  go_ret
  exact ⟨rfl, HB3.out⟩

set_option maxRecDepth 100000 in
set_option maxHeartbeats 4000000 in
theorem point_kind (k l c d n e o a f s t v : Int) (b off i m cap : Nat) (w : World) (hm : m ≤ 1000000) (hi : i < m) (R : Row5 w b off i a f s t v) (ht0 : 0 ≤ t) (ht1 : t ≤ 1000) (h1 : within l 0 (t - 1) = true) (h2 : within c 0 3 = true) (h3 : mayN d n e o = true) : Calls Tryz.prog 113 #[.agg #[.int .i64 k, .int .i64 (i : Int), .int .i64 l, .int .i64 c, .int .i64 d, .int .i64 n, .int .i64 e, .int .i64 o], .slice (some ⟨b, off, none⟩) m cap] w fun e' w' => e' = .returned (.bool (kindN ⟨k, (i : Int), l, c, d, n, e, o⟩ ⟨a, f, s, t, v⟩)) ∧ Below w.heap.size w w' := by
  obtain ⟨q, hq⟩ : ∃ q : Int, q = (i : Int) := ⟨_, rfl⟩
  have h0 : within (i : Int) 0 ((m : Int) - 1) = true := by simp [within]; omega
  have HB := Lib.hid (below_new w (.cells #[.int .i64 k, .int .i64 (i : Int), .int .i64 l, .int .i64 c, .int .i64 d, .int .i64 n, .int .i64 e, .int .i64 o] 62))
  have K1 : Hid (Box8 (w.alloc (.cells #[.int .i64 k, .int .i64 (i : Int), .int .i64 l, .int .i64 c, .int .i64 d, .int .i64 n, .int .i64 e, .int .i64 o] 62)) w.heap.size k (i : Int) l c d n e o) := Lib.hid (box8 w _ _ _ _ _ _ _ _ 62)
  have R1 := Lib.hid (R.on HB.out)
  have hi1 : (i : Int) < (m : Int) := by omega
  have hi0 : (0 : Int) ≤ (i : Int) := by omega
  clear R hq
  have hw1 : IntKind.i64.wrap ((m : Int) - 1) = (m : Int) - 1 := by rw [IntKind.wrap_i64]; omega
  have hw2 : IntKind.i64.wrap (t - 1) = t - 1 := by rw [IntKind.wrap_i64]; omega
  go_enter Tryz.func113, Tryz.ntmps113
  go_wp2
  generalize hg : w.heap.size = g at K1 ⊢
  generalize w.alloc (.cells #[.int .i64 k, .int .i64 (i : Int), .int .i64 l, .int .i64 c, .int .i64 d, .int .i64 n, .int .i64 e, .int .i64 o] 62) = w1 at *
  go_region_held3 (fun w' => (w'.cell? ⟨g, 0, none⟩ = some (.int .i64 k) ∧ w'.cell? ⟨g, 1, none⟩ = some (.int .i64 (i : Int)) ∧ w'.cell? ⟨g, 2, none⟩ = some (.int .i64 l) ∧ w'.cell? ⟨g, 3, none⟩ = some (.int .i64 c) ∧ w'.cell? ⟨g, 4, none⟩ = some (.int .i64 d) ∧ w'.cell? ⟨g, 5, none⟩ = some (.int .i64 n) ∧ w'.cell? ⟨g, 6, none⟩ = some (.int .i64 e) ∧ w'.cell? ⟨g, 7, none⟩ = some (.int .i64 o)) ∧ w'.cell? ⟨b, off + i * 5, none⟩ = some (.int .i64 a) ∧ w'.cell? ⟨b, off + i * 5 + 1, none⟩ = some (.int .i64 f) ∧ w'.cell? ⟨b, off + i * 5 + 2, none⟩ = some (.int .i64 s) ∧ w'.cell? ⟨b, off + i * 5 + 3, none⟩ = some (.int .i64 t) ∧ w'.cell? ⟨b, off + i * 5 + 4, none⟩ = some (.int .i64 v))
    (first
      | exact ⟨K1.out, R1.out⟩
      | exact ⟨K3.out, R3.out⟩
      | exact ⟨K4.out, R4.out⟩
      | go_keep)
    (first
      | (go_at_call 104; refine (cw_q (by assumption) _).mono ?_; rintro e' w9 ⟨rfl, h⟩; subst h; simp only [])
      | (go_at_call 136; refine (may_any _ _ _ _ _ _ _ _ _).mono ?_; rintro e' w3 ⟨rfl, h⟩; have HB3 := Lib.hid ((below_drewN HB.out 1).trans (h.mono HB.out.size)); have K3 := Lib.hid (Box8.on (w := w1.drew) K1.out h); have R3 := Lib.hid (Row5.on (w := w1.drew) R1.out h); clear h; rw [h3]; simp only [])
      | (go_at_call 137; refine (kind_any _ _ _ _ _ _ _ _ _ _ _ _ _ _ ht0 ht1).mono ?_; rintro e' w4 ⟨rfl, h⟩; have HB4 := Lib.hid (HB3.out.trans (h.mono HB3.out.size)); have K4 := Lib.hid (K3.out.on h); have R4 := Lib.hid (R3.out.on h); clear h; simp only []))
  go_wp2
  go_ret
  exact ⟨rfl, HB4.out⟩

theorem point_any (p : Pt) (qs : List Poll) (x : Value) (w : World) (hx : LiesAt w x qs.length (pollCells qs)) (hm : qs.length ≤ 1000000) (hq : ∀ q ∈ qs, 0 ≤ q.count ∧ q.count ≤ 1000) : Calls Tryz.prog 113 #[p.val, x] w fun e' w' => e' = .returned (.bool (pointN p qs)) ∧ Below w.heap.size w w' := by
  obtain ⟨k, q, l, c, d, n, e, o⟩ := p
  obtain ⟨ao, cap, rfl, _, hc⟩ := id hx
  rcases Bool.eq_false_or_eq_true (within q 0 ((qs.length : Int) - 1)) with h0 | h0
  · obtain ⟨i, rfl⟩ : ∃ i : Nat, q = (i : Int) := ⟨q.toNat, by have := within_true h0; omega⟩
    have hi : i < qs.length := by have := within_true h0; omega
    obtain ⟨b, off, rfl, R⟩ := row5_of hx i hi
    have ht := hq _ (List.getElem_mem hi)
    have hp : pollAt qs (i : Int) = qs[i] := by simp [pollAt, hi]
    have e0 : pointN ⟨k, (i : Int), l, c, d, n, e, o⟩ qs = (within l 0 (qs[i].count - 1) && (within c 0 3 && (mayN d n e o && kindN ⟨k, (i : Int), l, c, d, n, e, o⟩ qs[i]))) := by simp [pointN, h0, hp]
    rw [e0]
    generalize qs[i] = y at *
    obtain ⟨a, f, s, t, v⟩ := y
    rcases Bool.eq_false_or_eq_true (within l 0 (t - 1)) with h1 | h1
    · rcases Bool.eq_false_or_eq_true (within c 0 3) with h2 | h2
      · rcases Bool.eq_false_or_eq_true (mayN d n e o) with h3 | h3
        · refine (point_kind k l c d n e o a f s t v b off i qs.length cap w hm hi R ht.1 ht.2 h1 h2 h3).mono ?_
          rintro e' w' ⟨rfl, h⟩
          exact ⟨by simp [h1, h2, h3], h⟩
        · refine (point_may k l c d n e o a f s t v b off i qs.length cap w hm hi R ht.1 ht.2 h1 h2 h3).mono ?_
          rintro e' w' ⟨rfl, h⟩
          exact ⟨by simp [h1, h2, h3], h⟩
      · refine (point_class k l c d n e o a f s t v b off i qs.length cap w hm hi R ht.1 ht.2 h1 h2).mono ?_
        rintro e' w' ⟨rfl, h⟩
        exact ⟨by simp [h1, h2], h⟩
    · refine (point_place k l c d n e o a f s t v b off i qs.length cap w hm hi R ht.1 ht.2 h1).mono ?_
      rintro e' w' ⟨rfl, h⟩
      exact ⟨by simp [h1], h⟩
  · refine (point_none k q l c d n e o ao qs.length cap w hm h0).mono ?_
    rintro e' w' ⟨rfl, h⟩
    exact ⟨by simp [pointN, h0], h⟩

end Go.Proofs.YtpocjmlkhophoaaGreatDoor
