/- config.checkFields: the first of the ten conditions that does not hold; memory that was there stands. -/
import Derived.Test.YtpocjmlkhophoaaGreatDoorCk5
namespace Go.Proofs.YtpocjmlkhophoaaGreatDoor
open Go.RowKit Go.Extern.Stop Go.Stop Go.Extern

theorem cw_s (n a b : Int) (w : World) : Calls Tryz.prog 104 #[.int .i64 n, .int .i64 a, .int .i64 b] w fun e w' => e = .returned (.bool (within n a b)) ∧ w' = w := (cw_any n a b w).mono fun _ _ ⟨he, hw⟩ => ⟨he, hw.symm⟩

theorem it0 (a0 a1 a2 a3 a4 a5 a6 a7 a8 a9 : Value) (w : World) : (Instr.index 151 (.agg #[a0, a1, a2, a3, a4, a5, a6, a7, a8, a9]) (.int .i64 0)).run Tryz.prog w = .ok a0 w := by kernel_rfl
theorem it1 (a0 a1 a2 a3 a4 a5 a6 a7 a8 a9 : Value) (w : World) : (Instr.index 151 (.agg #[a0, a1, a2, a3, a4, a5, a6, a7, a8, a9]) (.int .i64 1)).run Tryz.prog w = .ok a1 w := by kernel_rfl
theorem it2 (a0 a1 a2 a3 a4 a5 a6 a7 a8 a9 : Value) (w : World) : (Instr.index 151 (.agg #[a0, a1, a2, a3, a4, a5, a6, a7, a8, a9]) (.int .i64 2)).run Tryz.prog w = .ok a2 w := by kernel_rfl
theorem it3 (a0 a1 a2 a3 a4 a5 a6 a7 a8 a9 : Value) (w : World) : (Instr.index 151 (.agg #[a0, a1, a2, a3, a4, a5, a6, a7, a8, a9]) (.int .i64 3)).run Tryz.prog w = .ok a3 w := by kernel_rfl
theorem it4 (a0 a1 a2 a3 a4 a5 a6 a7 a8 a9 : Value) (w : World) : (Instr.index 151 (.agg #[a0, a1, a2, a3, a4, a5, a6, a7, a8, a9]) (.int .i64 4)).run Tryz.prog w = .ok a4 w := by kernel_rfl
theorem it5 (a0 a1 a2 a3 a4 a5 a6 a7 a8 a9 : Value) (w : World) : (Instr.index 151 (.agg #[a0, a1, a2, a3, a4, a5, a6, a7, a8, a9]) (.int .i64 5)).run Tryz.prog w = .ok a5 w := by kernel_rfl
theorem it6 (a0 a1 a2 a3 a4 a5 a6 a7 a8 a9 : Value) (w : World) : (Instr.index 151 (.agg #[a0, a1, a2, a3, a4, a5, a6, a7, a8, a9]) (.int .i64 6)).run Tryz.prog w = .ok a6 w := by kernel_rfl
theorem it7 (a0 a1 a2 a3 a4 a5 a6 a7 a8 a9 : Value) (w : World) : (Instr.index 151 (.agg #[a0, a1, a2, a3, a4, a5, a6, a7, a8, a9]) (.int .i64 7)).run Tryz.prog w = .ok a7 w := by kernel_rfl
theorem it8 (a0 a1 a2 a3 a4 a5 a6 a7 a8 a9 : Value) (w : World) : (Instr.index 151 (.agg #[a0, a1, a2, a3, a4, a5, a6, a7, a8, a9]) (.int .i64 8)).run Tryz.prog w = .ok a8 w := by kernel_rfl
theorem it9 (a0 a1 a2 a3 a4 a5 a6 a7 a8 a9 : Value) (w : World) : (Instr.index 151 (.agg #[a0, a1, a2, a3, a4, a5, a6, a7, a8, a9]) (.int .i64 9)).run Tryz.prog w = .ok a9 w := by kernel_rfl

/-- The loop behind the ten tests, at any ten answers. -/
def TenIs (f : Nat → Bool) : Res :=
  match firstFrom f 0 10 with
  | none => okR
  | some i => ([(sConfig, (i : Int) + 1)], 1)
theorem ten_some {f : Nat → Bool} {i : Nat} (h : firstFrom f 0 10 = some i) : TenIs f = ([(sConfig, (i : Int) + 1)], 1) := by unfold TenIs; rw [h]
theorem ten_none {f : Nat → Bool} (h : firstFrom f 0 10 = none) : TenIs f = okR := by unfold TenIs; rw [h]

set_option maxRecDepth 100000 in
set_option maxHeartbeats 8000000 in
theorem fields_a (c : Cfg) (sl po pt ct : Value) (w : World) (hM : within c.master 0 65519 = true) : Calls Tryz.prog 64 #[cfgV c sl po pt ct] w (CheckIs w (fieldsR c)) := by
  have HB := Lib.hid (below_new w (.cells #[.int .i64 c.own, .int .i64 c.master, .bool c.unsol, .int .i64 c.reply, .int .i64 c.silence, .int .i64 c.retries, .int .i64 c.offline, .int .i64 c.select, .int .i64 c.confirm, .int .i64 c.frag, .int .i64 c.r0, .int .i64 c.r1, .int .i64 c.r2, sl, po, pt, ct] 28))
  have KX := Lib.hid (cfgBox_new w c sl po pt ct)
  have K1 := Lib.hid KX.out.fields
  have HMN := Lib.hid (show min 100 c.reply = (if c.reply < 100 then c.reply else 100) by split <;> omega)
  have HT := Lib.hid (show fieldsR c = TenIs (fieldsN c) from rfl)
  have hq0 : fieldsN c 0 = within c.own 0 65519 := rfl
  have hq1 : fieldsN c 1 = (c.master != c.own) := by show (within c.master 0 65519 && c.master != c.own) = _; rw [hM, Bool.true_and]
  have hq2 : fieldsN c 2 = within c.reply 1 10000 := rfl
  have hq3 : fieldsN c 3 = within c.silence 1 (if c.reply < 100 then c.reply else 100) := by show within c.silence 1 (min 100 c.reply) = _; rw [HMN.out]
  have hq4 : fieldsN c 4 = within c.retries 0 5 := rfl
  have hq5 : fieldsN c 5 = within c.offline 1 10 := rfl
  have hq6 : fieldsN c 6 = within c.select 1 10000 := rfl
  have hq7 : fieldsN c 7 = within c.confirm 1 10000 := rfl
  have hq8 : fieldsN c 8 = within c.frag 249 2048 := rfl
  have hq9 : fieldsN c 9 = roomN c.r0 c.r1 c.r2 := rfl
  have HQ := Lib.hid (And.intro hq0 (And.intro hq1 (And.intro hq2 (And.intro hq3 (And.intro hq4 (And.intro hq5 (And.intro hq6 (And.intro hq7 (And.intro hq8 hq9)))))))))
  clear hq0 hq1 hq2 hq3 hq4 hq5 hq6 hq7 hq8 hq9
  unfold cfgV
  go_enter Tryz.func64, Tryz.ntmps64
  go_wp2
  generalize hg : w.heap.size = g at KX K1 ⊢
  generalize w.alloc (.cells #[.int .i64 c.own, .int .i64 c.master, .bool c.unsol, .int .i64 c.reply, .int .i64 c.silence, .int .i64 c.retries, .int .i64 c.offline, .int .i64 c.select, .int .i64 c.confirm, .int .i64 c.frag, .int .i64 c.r0, .int .i64 c.r1, .int .i64 c.r2, sl, po, pt, ct] 28) = w1 at *
  refine wp_region_held_drew (S := fun w' => w'.cell? ⟨g, 0, none⟩ = some (.int .i64 c.own) ∧ w'.cell? ⟨g, 1, none⟩ = some (.int .i64 c.master) ∧ w'.cell? ⟨g, 2, none⟩ = some (.bool c.unsol) ∧ w'.cell? ⟨g, 3, none⟩ = some (.int .i64 c.reply) ∧ w'.cell? ⟨g, 4, none⟩ = some (.int .i64 c.silence) ∧ w'.cell? ⟨g, 5, none⟩ = some (.int .i64 c.retries) ∧ w'.cell? ⟨g, 6, none⟩ = some (.int .i64 c.offline) ∧ w'.cell? ⟨g, 7, none⟩ = some (.int .i64 c.select) ∧ w'.cell? ⟨g, 8, none⟩ = some (.int .i64 c.confirm) ∧ w'.cell? ⟨g, 9, none⟩ = some (.int .i64 c.frag) ∧ w'.cell? ⟨g, 10, none⟩ = some (.int .i64 c.r0) ∧ w'.cell? ⟨g, 11, none⟩ = some (.int .i64 c.r1) ∧ w'.cell? ⟨g, 12, none⟩ = some (.int .i64 c.r2)) (by kernel_rfl) K1.out (fun hHeld => ?_)
  refine wpAnyH_take (i := 0) (oi := { dst := some 5, op := Op.fieldAddr 28 (Operand.tmp 1) 0, type := 0, pos := "check.go:52", after := #[], guard := none }) (v := ?_) rfl (by kernel_rfl) (by kernel_rfl) (by kernel_rfl) (fun _ _ _ h => h) (Or.inl ⟨by rfl, ?_⟩) hHeld ?_
  rotate_left
  · (intro w hSw; (try dsimp only at hSw); go_simp; try with_reducible rfl)
  (try simp only [Act.put, List.setIfInBounds_toArray, List.set_cons_zero, List.set_cons_succ])
  refine wpAnyH_take (i := 1) (oi := { dst := some 6, op := Op.load 3 (Operand.tmp 5), type := 3, pos := "check.go:52", after := #[{ on := 0, ground := Ground.data }], guard := none }) (v := ?_) rfl (by kernel_rfl) (by kernel_rfl) (by kernel_rfl) (fun _ _ _ h => h) (Or.inl ⟨by rfl, ?_⟩) hHeld ?_
  rotate_left
  · (intro w hSw; (try dsimp only at hSw); go_simp; try with_reducible rfl)
  (try simp only [Act.put, List.setIfInBounds_toArray, List.set_cons_zero, List.set_cons_succ])
  refine wpAnyH_take (i := 3) (oi := { dst := some 8, op := Op.fieldAddr 28 (Operand.tmp 1) 1, type := 0, pos := "check.go:52", after := #[], guard := none }) (v := ?_) rfl (by kernel_rfl) (by kernel_rfl) (by kernel_rfl) (fun _ _ _ h => h) (Or.inl ⟨by rfl, ?_⟩) hHeld ?_
  rotate_left
  · (intro w hSw; (try dsimp only at hSw); go_simp; try with_reducible rfl)
  (try simp only [Act.put, List.setIfInBounds_toArray, List.set_cons_zero, List.set_cons_succ])
  refine wpAnyH_take (i := 4) (oi := { dst := some 9, op := Op.load 3 (Operand.tmp 8), type := 3, pos := "check.go:52", after := #[{ on := 3, ground := Ground.data }], guard := none }) (v := ?_) rfl (by kernel_rfl) (by kernel_rfl) (by kernel_rfl) (fun _ _ _ h => h) (Or.inl ⟨by rfl, ?_⟩) hHeld ?_
  rotate_left
  · (intro w hSw; (try dsimp only at hSw); go_simp; try with_reducible rfl)
  (try simp only [Act.put, List.setIfInBounds_toArray, List.set_cons_zero, List.set_cons_succ])
  refine wpAnyH_take (i := 13) (oi := { dst := some 18, op := Op.fieldAddr 28 (Operand.tmp 1) 3, type := 0, pos := "check.go:52", after := #[], guard := none }) (v := ?_) rfl (by kernel_rfl) (by kernel_rfl) (by kernel_rfl) (fun _ _ _ h => h) (Or.inl ⟨by rfl, ?_⟩) hHeld ?_
  rotate_left
  · (intro w hSw; (try dsimp only at hSw); go_simp; try with_reducible rfl)
  (try simp only [Act.put, List.setIfInBounds_toArray, List.set_cons_zero, List.set_cons_succ])
  refine wpAnyH_take (i := 14) (oi := { dst := some 19, op := Op.load 3 (Operand.tmp 18), type := 3, pos := "check.go:52", after := #[{ on := 13, ground := Ground.data }], guard := none }) (v := ?_) rfl (by kernel_rfl) (by kernel_rfl) (by kernel_rfl) (fun _ _ _ h => h) (Or.inl ⟨by rfl, ?_⟩) hHeld ?_
  rotate_left
  · (intro w hSw; (try dsimp only at hSw); go_simp; try with_reducible rfl)
  (try simp only [Act.put, List.setIfInBounds_toArray, List.set_cons_zero, List.set_cons_succ])
  refine wpAnyH_take (i := 16) (oi := { dst := some 21, op := Op.fieldAddr 28 (Operand.tmp 1) 4, type := 0, pos := "check.go:52", after := #[], guard := none }) (v := ?_) rfl (by kernel_rfl) (by kernel_rfl) (by kernel_rfl) (fun _ _ _ h => h) (Or.inl ⟨by rfl, ?_⟩) hHeld ?_
  rotate_left
  · (intro w hSw; (try dsimp only at hSw); go_simp; try with_reducible rfl)
  (try simp only [Act.put, List.setIfInBounds_toArray, List.set_cons_zero, List.set_cons_succ])
  refine wpAnyH_take (i := 17) (oi := { dst := some 22, op := Op.load 3 (Operand.tmp 21), type := 3, pos := "check.go:52", after := #[{ on := 16, ground := Ground.data }], guard := none }) (v := ?_) rfl (by kernel_rfl) (by kernel_rfl) (by kernel_rfl) (fun _ _ _ h => h) (Or.inl ⟨by rfl, ?_⟩) hHeld ?_
  rotate_left
  · (intro w hSw; (try dsimp only at hSw); go_simp; try with_reducible rfl)
  (try simp only [Act.put, List.setIfInBounds_toArray, List.set_cons_zero, List.set_cons_succ])
  refine wpAnyH_take (i := 18) (oi := { dst := some 23, op := Op.fieldAddr 28 (Operand.tmp 1) 3, type := 0, pos := "check.go:52", after := #[], guard := none }) (v := ?_) rfl (by kernel_rfl) (by kernel_rfl) (by kernel_rfl) (fun _ _ _ h => h) (Or.inl ⟨by rfl, ?_⟩) hHeld ?_
  rotate_left
  · (intro w hSw; (try dsimp only at hSw); go_simp; try with_reducible rfl)
  (try simp only [Act.put, List.setIfInBounds_toArray, List.set_cons_zero, List.set_cons_succ])
  refine wpAnyH_take (i := 19) (oi := { dst := some 24, op := Op.load 3 (Operand.tmp 23), type := 3, pos := "check.go:52", after := #[{ on := 18, ground := Ground.data }], guard := none }) (v := ?_) rfl (by kernel_rfl) (by kernel_rfl) (by kernel_rfl) (fun _ _ _ h => h) (Or.inl ⟨by rfl, ?_⟩) hHeld ?_
  rotate_left
  · (intro w hSw; (try dsimp only at hSw); go_simp; try with_reducible rfl)
  (try simp only [Act.put, List.setIfInBounds_toArray, List.set_cons_zero, List.set_cons_succ])
  refine wpAnyH_take (i := 20) (oi := { dst := some 25, op := Op.call { callee := Callee.builtin Builtin.min, args := #[Operand.const (Value.int IntKind.i64 100), Operand.tmp 24], argTypes := #[3, 3] }, type := 3, pos := "check.go:52", after := #[{ on := 19, ground := Ground.data }], guard := none }) (v := ?_) rfl (by kernel_rfl) (by kernel_rfl) (by kernel_rfl) (fun _ _ _ h => h) (Or.inl ⟨by rfl, ?_⟩) hHeld ?_
  rotate_left
  · (intro w hSw; (try dsimp only at hSw); go_simp; try with_reducible rfl)
  (try simp only [Act.put, List.setIfInBounds_toArray, List.set_cons_zero, List.set_cons_succ])
  refine wpAnyH_take (i := 22) (oi := { dst := some 27, op := Op.fieldAddr 28 (Operand.tmp 1) 5, type := 0, pos := "check.go:52", after := #[], guard := none }) (v := ?_) rfl (by kernel_rfl) (by kernel_rfl) (by kernel_rfl) (fun _ _ _ h => h) (Or.inl ⟨by rfl, ?_⟩) hHeld ?_
  rotate_left
  · (intro w hSw; (try dsimp only at hSw); go_simp; try with_reducible rfl)
  (try simp only [Act.put, List.setIfInBounds_toArray, List.set_cons_zero, List.set_cons_succ])
  refine wpAnyH_take (i := 23) (oi := { dst := some 28, op := Op.load 3 (Operand.tmp 27), type := 3, pos := "check.go:52", after := #[{ on := 22, ground := Ground.data }], guard := none }) (v := ?_) rfl (by kernel_rfl) (by kernel_rfl) (by kernel_rfl) (fun _ _ _ h => h) (Or.inl ⟨by rfl, ?_⟩) hHeld ?_
  rotate_left
  · (intro w hSw; (try dsimp only at hSw); go_simp; try with_reducible rfl)
  (try simp only [Act.put, List.setIfInBounds_toArray, List.set_cons_zero, List.set_cons_succ])
  refine wpAnyH_take (i := 25) (oi := { dst := some 30, op := Op.fieldAddr 28 (Operand.tmp 1) 6, type := 0, pos := "check.go:52", after := #[], guard := none }) (v := ?_) rfl (by kernel_rfl) (by kernel_rfl) (by kernel_rfl) (fun _ _ _ h => h) (Or.inl ⟨by rfl, ?_⟩) hHeld ?_
  rotate_left
  · (intro w hSw; (try dsimp only at hSw); go_simp; try with_reducible rfl)
  (try simp only [Act.put, List.setIfInBounds_toArray, List.set_cons_zero, List.set_cons_succ])
  refine wpAnyH_take (i := 26) (oi := { dst := some 31, op := Op.load 3 (Operand.tmp 30), type := 3, pos := "check.go:52", after := #[{ on := 25, ground := Ground.data }], guard := none }) (v := ?_) rfl (by kernel_rfl) (by kernel_rfl) (by kernel_rfl) (fun _ _ _ h => h) (Or.inl ⟨by rfl, ?_⟩) hHeld ?_
  rotate_left
  · (intro w hSw; (try dsimp only at hSw); go_simp; try with_reducible rfl)
  (try simp only [Act.put, List.setIfInBounds_toArray, List.set_cons_zero, List.set_cons_succ])
  refine wpAnyH_take (i := 28) (oi := { dst := some 33, op := Op.fieldAddr 28 (Operand.tmp 1) 7, type := 0, pos := "check.go:52", after := #[], guard := none }) (v := ?_) rfl (by kernel_rfl) (by kernel_rfl) (by kernel_rfl) (fun _ _ _ h => h) (Or.inl ⟨by rfl, ?_⟩) hHeld ?_
  rotate_left
  · (intro w hSw; (try dsimp only at hSw); go_simp; try with_reducible rfl)
  (try simp only [Act.put, List.setIfInBounds_toArray, List.set_cons_zero, List.set_cons_succ])
  refine wpAnyH_take (i := 29) (oi := { dst := some 34, op := Op.load 3 (Operand.tmp 33), type := 3, pos := "check.go:52", after := #[{ on := 28, ground := Ground.data }], guard := none }) (v := ?_) rfl (by kernel_rfl) (by kernel_rfl) (by kernel_rfl) (fun _ _ _ h => h) (Or.inl ⟨by rfl, ?_⟩) hHeld ?_
  rotate_left
  · (intro w hSw; (try dsimp only at hSw); go_simp; try with_reducible rfl)
  (try simp only [Act.put, List.setIfInBounds_toArray, List.set_cons_zero, List.set_cons_succ])
  refine wpAnyH_take (i := 31) (oi := { dst := some 36, op := Op.fieldAddr 28 (Operand.tmp 1) 8, type := 0, pos := "check.go:52", after := #[], guard := none }) (v := ?_) rfl (by kernel_rfl) (by kernel_rfl) (by kernel_rfl) (fun _ _ _ h => h) (Or.inl ⟨by rfl, ?_⟩) hHeld ?_
  rotate_left
  · (intro w hSw; (try dsimp only at hSw); go_simp; try with_reducible rfl)
  (try simp only [Act.put, List.setIfInBounds_toArray, List.set_cons_zero, List.set_cons_succ])
  refine wpAnyH_take (i := 32) (oi := { dst := some 37, op := Op.load 3 (Operand.tmp 36), type := 3, pos := "check.go:52", after := #[{ on := 31, ground := Ground.data }], guard := none }) (v := ?_) rfl (by kernel_rfl) (by kernel_rfl) (by kernel_rfl) (fun _ _ _ h => h) (Or.inl ⟨by rfl, ?_⟩) hHeld ?_
  rotate_left
  · (intro w hSw; (try dsimp only at hSw); go_simp; try with_reducible rfl)
  (try simp only [Act.put, List.setIfInBounds_toArray, List.set_cons_zero, List.set_cons_succ])
  refine wpAnyH_take (i := 34) (oi := { dst := some 39, op := Op.fieldAddr 28 (Operand.tmp 1) 9, type := 0, pos := "check.go:52", after := #[], guard := none }) (v := ?_) rfl (by kernel_rfl) (by kernel_rfl) (by kernel_rfl) (fun _ _ _ h => h) (Or.inl ⟨by rfl, ?_⟩) hHeld ?_
  rotate_left
  · (intro w hSw; (try dsimp only at hSw); go_simp; try with_reducible rfl)
  (try simp only [Act.put, List.setIfInBounds_toArray, List.set_cons_zero, List.set_cons_succ])
  refine wpAnyH_take (i := 35) (oi := { dst := some 40, op := Op.load 3 (Operand.tmp 39), type := 3, pos := "check.go:52", after := #[{ on := 34, ground := Ground.data }], guard := none }) (v := ?_) rfl (by kernel_rfl) (by kernel_rfl) (by kernel_rfl) (fun _ _ _ h => h) (Or.inl ⟨by rfl, ?_⟩) hHeld ?_
  rotate_left
  · (intro w hSw; (try dsimp only at hSw); go_simp; try with_reducible rfl)
  (try simp only [Act.put, List.setIfInBounds_toArray, List.set_cons_zero, List.set_cons_succ])
  refine wpAnyH_take (i := 37) (oi := { dst := some 42, op := Op.fieldAddr 28 (Operand.tmp 1) 10, type := 0, pos := "check.go:52", after := #[], guard := none }) (v := ?_) rfl (by kernel_rfl) (by kernel_rfl) (by kernel_rfl) (fun _ _ _ h => h) (Or.inl ⟨by rfl, ?_⟩) hHeld ?_
  rotate_left
  · (intro w hSw; (try dsimp only at hSw); go_simp; try with_reducible rfl)
  (try simp only [Act.put, List.setIfInBounds_toArray, List.set_cons_zero, List.set_cons_succ])
  refine wpAnyH_take (i := 38) (oi := { dst := some 43, op := Op.load 22 (Operand.tmp 42), type := 22, pos := "check.go:52", after := #[{ on := 37, ground := Ground.data }], guard := none }) (v := ?_) rfl (by kernel_rfl) (by kernel_rfl) (by kernel_rfl) (fun _ _ _ h => h) (Or.inl ⟨by rfl, ?_⟩) hHeld ?_
  rotate_left
  · (intro w hSw; (try dsimp only at hSw); go_simp; try with_reducible rfl)
  (try simp only [Act.put, List.setIfInBounds_toArray, List.set_cons_zero, List.set_cons_succ])
  refine wpAnyH_take (i := 41) (oi := { dst := some 46, op := Op.move (Operand.const (Value.int IntKind.i64 0)), type := 3, pos := "check.go:52", after := #[], guard := none }) (v := ?_) rfl (by kernel_rfl) (by kernel_rfl) (by kernel_rfl) (fun _ _ _ h => h) (Or.inl ⟨by rfl, ?_⟩) hHeld ?_
  rotate_left
  · (intro w hSw; (try dsimp only at hSw); go_simp; try with_reducible rfl)
  (try simp only [Act.put, List.setIfInBounds_toArray, List.set_cons_zero, List.set_cons_succ])
  refine wpAnyH_ready (rs := [2]) (by kernel_rfl) (by simp) ?_
  refine AllReadyH.cons (o := { dst := some 7, op := Op.call { callee := Callee.value (Operand.func 104), args := #[Operand.tmp 6, Operand.const (Value.int IntKind.i64 0), Operand.const (Value.int IntKind.i64 65519)], argTypes := #[3, 3, 3] }, type := 4, pos := "check.go:53", after := #[{ on := 1, ground := Ground.data }], guard := none }) rfl (fun K hK => ?_) AllReadyH.nil
  go_simp
  refine (cw_s _ _ _ _).mono ?_; rintro e' w9 ⟨rfl, hh⟩; subst hh; simp only []
  refine hK.out _ _ hHeld (fun hHeld => ?_)
  clear hK K
  (try simp only [Act.put, List.setIfInBounds_toArray, List.set_cons_zero, List.set_cons_succ])
  refine wpAnyH_ready (rs := [5]) (by kernel_rfl) (by simp) ?_
  refine AllReadyH.cons (o := { dst := some 10, op := Op.call { callee := Callee.value (Operand.func 104), args := #[Operand.tmp 9, Operand.const (Value.int IntKind.i64 0), Operand.const (Value.int IntKind.i64 65519)], argTypes := #[3, 3, 3] }, type := 4, pos := "check.go:54", after := #[{ on := 4, ground := Ground.data }, { on := 2, ground := Ground.chain }], guard := none }) rfl (fun K hK => ?_) AllReadyH.nil
  go_simp
  refine (cw_q hM _).mono ?_; rintro e' w9 ⟨rfl, hh⟩; subst hh; simp only []
  refine hK.out _ _ hHeld (fun hHeld => ?_)
  clear hK K
  (try simp only [Act.put, List.setIfInBounds_toArray, List.set_cons_zero, List.set_cons_succ])
  refine wpAnyH_take (i := 6) (oi := { dst := some 11, op := Op.move (Operand.tmp 10), type := 4, pos := "check.go:52", after := #[{ on := 5, ground := Ground.data }, { on := 5, ground := Ground.chain }], guard := none }) (v := ?_) rfl (by kernel_rfl) (by kernel_rfl) (by kernel_rfl) (fun _ _ _ h => h) (Or.inl ⟨by rfl, ?_⟩) hHeld ?_
  rotate_left
  · (intro w hSw; (try dsimp only at hSw); go_simp; try with_reducible rfl)
  (try simp only [Act.put, List.setIfInBounds_toArray, List.set_cons_zero, List.set_cons_succ])
  refine wpAnyH_take (i := 7) (oi := { dst := some 12, op := Op.fieldAddr 28 (Operand.tmp 1) 1, type := 0, pos := "check.go:52", after := #[{ on := 6, ground := Ground.guard }], guard := some (6, true) }) (v := ?_) rfl (by kernel_rfl) (by kernel_rfl) (by kernel_rfl) (fun _ _ _ h => h) (Or.inl ⟨by rfl, ?_⟩) hHeld ?_
  rotate_left
  · (intro w hSw; (try dsimp only at hSw); go_simp; try with_reducible rfl)
  (try simp only [Act.put, List.setIfInBounds_toArray, List.set_cons_zero, List.set_cons_succ])
  refine wpAnyH_take (i := 8) (oi := { dst := some 13, op := Op.load 3 (Operand.tmp 12), type := 3, pos := "check.go:52", after := #[{ on := 7, ground := Ground.data }, { on := 6, ground := Ground.guard }], guard := some (6, true) }) (v := ?_) rfl (by kernel_rfl) (by kernel_rfl) (by kernel_rfl) (fun _ _ _ h => h) (Or.inl ⟨by rfl, ?_⟩) hHeld ?_
  rotate_left
  · (intro w hSw; (try dsimp only at hSw); go_simp; try with_reducible rfl)
  (try simp only [Act.put, List.setIfInBounds_toArray, List.set_cons_zero, List.set_cons_succ])
  refine wpAnyH_take (i := 9) (oi := { dst := some 14, op := Op.fieldAddr 28 (Operand.tmp 1) 0, type := 0, pos := "check.go:52", after := #[{ on := 6, ground := Ground.guard }], guard := some (6, true) }) (v := ?_) rfl (by kernel_rfl) (by kernel_rfl) (by kernel_rfl) (fun _ _ _ h => h) (Or.inl ⟨by rfl, ?_⟩) hHeld ?_
  rotate_left
  · (intro w hSw; (try dsimp only at hSw); go_simp; try with_reducible rfl)
  (try simp only [Act.put, List.setIfInBounds_toArray, List.set_cons_zero, List.set_cons_succ])
  refine wpAnyH_take (i := 10) (oi := { dst := some 15, op := Op.load 3 (Operand.tmp 14), type := 3, pos := "check.go:52", after := #[{ on := 9, ground := Ground.data }, { on := 6, ground := Ground.guard }], guard := some (6, true) }) (v := ?_) rfl (by kernel_rfl) (by kernel_rfl) (by kernel_rfl) (fun _ _ _ h => h) (Or.inl ⟨by rfl, ?_⟩) hHeld ?_
  rotate_left
  · (intro w hSw; (try dsimp only at hSw); go_simp; try with_reducible rfl)
  (try simp only [Act.put, List.setIfInBounds_toArray, List.set_cons_zero, List.set_cons_succ])
  refine wpAnyH_take (i := 11) (oi := { dst := some 16, op := Op.binOp BinOp.neq 3 (Operand.tmp 13) (Operand.tmp 15) 3, type := 4, pos := "check.go:52", after := #[{ on := 8, ground := Ground.data }, { on := 10, ground := Ground.data }, { on := 6, ground := Ground.guard }], guard := some (6, true) }) (v := ?_) rfl (by kernel_rfl) (by kernel_rfl) (by kernel_rfl) (fun _ _ _ h => h) (Or.inl ⟨by rfl, ?_⟩) hHeld ?_
  rotate_left
  · (intro w hSw; (try dsimp only at hSw); go_simp; try with_reducible rfl)
  (try simp only [Act.put, List.setIfInBounds_toArray, List.set_cons_zero, List.set_cons_succ])
  refine wpAnyH_take (i := 12) (oi := { dst := some 17, op := Op.pick (Operand.tmp 11) (Operand.tmp 16) (Operand.const (Value.bool false)), type := 4, pos := "check.go:52", after := #[{ on := 6, ground := Ground.data }, { on := 11, ground := Ground.data }], guard := none }) (v := ?_) rfl (by kernel_rfl) (by kernel_rfl) (by kernel_rfl) (fun _ _ _ h => h) (Or.inl ⟨by rfl, ?_⟩) hHeld ?_
  rotate_left
  · (intro w hSw; (try dsimp only at hSw); go_simp; try with_reducible rfl)
  (try simp only [Act.put, List.setIfInBounds_toArray, List.set_cons_zero, List.set_cons_succ])
  refine wpAnyH_ready (rs := [15]) (by kernel_rfl) (by simp) ?_
  refine AllReadyH.cons (o := { dst := some 20, op := Op.call { callee := Callee.value (Operand.func 104), args := #[Operand.tmp 19, Operand.const (Value.int IntKind.i64 1), Operand.const (Value.int IntKind.i64 10000)], argTypes := #[3, 3, 3] }, type := 4, pos := "check.go:55", after := #[{ on := 14, ground := Ground.data }, { on := 6, ground := Ground.chain }], guard := none }) rfl (fun K hK => ?_) AllReadyH.nil
  go_simp
  refine (cw_s _ _ _ _).mono ?_; rintro e' w9 ⟨rfl, hh⟩; subst hh; simp only []
  refine hK.out _ _ hHeld (fun hHeld => ?_)
  clear hK K
  (try simp only [Act.put, List.setIfInBounds_toArray, List.set_cons_zero, List.set_cons_succ])
  refine wpAnyH_ready (rs := [21]) (by kernel_rfl) (by simp) ?_
  refine AllReadyH.cons (o := { dst := some 26, op := Op.call { callee := Callee.value (Operand.func 104), args := #[Operand.tmp 22, Operand.const (Value.int IntKind.i64 1), Operand.tmp 25], argTypes := #[3, 3, 3] }, type := 4, pos := "check.go:56", after := #[{ on := 17, ground := Ground.data }, { on := 20, ground := Ground.data }, { on := 15, ground := Ground.chain }], guard := none }) rfl (fun K hK => ?_) AllReadyH.nil
  go_simp
  refine (cw_s _ _ _ _).mono ?_; rintro e' w9 ⟨rfl, hh⟩; subst hh; simp only []
  refine hK.out _ _ hHeld (fun hHeld => ?_)
  clear hK K
  (try simp only [Act.put, List.setIfInBounds_toArray, List.set_cons_zero, List.set_cons_succ])
  refine wpAnyH_ready (rs := [24]) (by kernel_rfl) (by simp) ?_
  refine AllReadyH.cons (o := { dst := some 29, op := Op.call { callee := Callee.value (Operand.func 104), args := #[Operand.tmp 28, Operand.const (Value.int IntKind.i64 0), Operand.const (Value.int IntKind.i64 5)], argTypes := #[3, 3, 3] }, type := 4, pos := "check.go:57", after := #[{ on := 23, ground := Ground.data }, { on := 21, ground := Ground.chain }], guard := none }) rfl (fun K hK => ?_) AllReadyH.nil
  go_simp
  refine (cw_s _ _ _ _).mono ?_; rintro e' w9 ⟨rfl, hh⟩; subst hh; simp only []
  refine hK.out _ _ hHeld (fun hHeld => ?_)
  clear hK K
  (try simp only [Act.put, List.setIfInBounds_toArray, List.set_cons_zero, List.set_cons_succ])
  refine wpAnyH_ready (rs := [27]) (by kernel_rfl) (by simp) ?_
  refine AllReadyH.cons (o := { dst := some 32, op := Op.call { callee := Callee.value (Operand.func 104), args := #[Operand.tmp 31, Operand.const (Value.int IntKind.i64 1), Operand.const (Value.int IntKind.i64 10)], argTypes := #[3, 3, 3] }, type := 4, pos := "check.go:58", after := #[{ on := 26, ground := Ground.data }, { on := 24, ground := Ground.chain }], guard := none }) rfl (fun K hK => ?_) AllReadyH.nil
  go_simp
  refine (cw_s _ _ _ _).mono ?_; rintro e' w9 ⟨rfl, hh⟩; subst hh; simp only []
  refine hK.out _ _ hHeld (fun hHeld => ?_)
  clear hK K
  (try simp only [Act.put, List.setIfInBounds_toArray, List.set_cons_zero, List.set_cons_succ])
  refine wpAnyH_ready (rs := [30]) (by kernel_rfl) (by simp) ?_
  refine AllReadyH.cons (o := { dst := some 35, op := Op.call { callee := Callee.value (Operand.func 104), args := #[Operand.tmp 34, Operand.const (Value.int IntKind.i64 1), Operand.const (Value.int IntKind.i64 10000)], argTypes := #[3, 3, 3] }, type := 4, pos := "check.go:59", after := #[{ on := 29, ground := Ground.data }, { on := 27, ground := Ground.chain }], guard := none }) rfl (fun K hK => ?_) AllReadyH.nil
  go_simp
  refine (cw_s _ _ _ _).mono ?_; rintro e' w9 ⟨rfl, hh⟩; subst hh; simp only []
  refine hK.out _ _ hHeld (fun hHeld => ?_)
  clear hK K
  (try simp only [Act.put, List.setIfInBounds_toArray, List.set_cons_zero, List.set_cons_succ])
  refine wpAnyH_ready (rs := [33]) (by kernel_rfl) (by simp) ?_
  refine AllReadyH.cons (o := { dst := some 38, op := Op.call { callee := Callee.value (Operand.func 104), args := #[Operand.tmp 37, Operand.const (Value.int IntKind.i64 1), Operand.const (Value.int IntKind.i64 10000)], argTypes := #[3, 3, 3] }, type := 4, pos := "check.go:60", after := #[{ on := 32, ground := Ground.data }, { on := 30, ground := Ground.chain }], guard := none }) rfl (fun K hK => ?_) AllReadyH.nil
  go_simp
  refine (cw_s _ _ _ _).mono ?_; rintro e' w9 ⟨rfl, hh⟩; subst hh; simp only []
  refine hK.out _ _ hHeld (fun hHeld => ?_)
  clear hK K
  (try simp only [Act.put, List.setIfInBounds_toArray, List.set_cons_zero, List.set_cons_succ])
  refine wpAnyH_ready (rs := [36]) (by kernel_rfl) (by simp) ?_
  refine AllReadyH.cons (o := { dst := some 41, op := Op.call { callee := Callee.value (Operand.func 104), args := #[Operand.tmp 40, Operand.const (Value.int IntKind.i64 249), Operand.const (Value.int IntKind.i64 2048)], argTypes := #[3, 3, 3] }, type := 4, pos := "check.go:61", after := #[{ on := 35, ground := Ground.data }, { on := 33, ground := Ground.chain }], guard := none }) rfl (fun K hK => ?_) AllReadyH.nil
  go_simp
  refine (cw_s _ _ _ _).mono ?_; rintro e' w9 ⟨rfl, hh⟩; subst hh; simp only []
  refine hK.out _ _ hHeld (fun hHeld => ?_)
  clear hK K
  (try simp only [Act.put, List.setIfInBounds_toArray, List.set_cons_zero, List.set_cons_succ])
  refine wpAnyH_ready (rs := [39]) (by kernel_rfl) (by simp) ?_
  refine AllReadyH.cons (o := { dst := some 44, op := Op.call { callee := Callee.value (Operand.func 105), args := #[Operand.tmp 43], argTypes := #[22] }, type := 4, pos := "check.go:62", after := #[{ on := 38, ground := Ground.data }, { on := 36, ground := Ground.chain }], guard := none }) rfl (fun K hK => ?_) AllReadyH.nil
  go_simp
  refine (room_any _ _ _ _).mono ?_; rintro e' w3 ⟨rfl, hh⟩; have HB3 := Lib.hid ((below_drewN HB.out 1).trans (hh.mono HB.out.size)); have K3 := Lib.hid (CfgBox.on (w := w1.drew) KX.out hh).fields; clear hh hHeld; simp only []
  refine hK.out _ _ K3.out (fun hHeld => ?_)
  clear hK K
  (try simp only [Act.put, List.setIfInBounds_toArray, List.set_cons_zero, List.set_cons_succ])
  refine wpAnyH_take (i := 40) (oi := { dst := some 45, op := Op.build 151 #[(0, Operand.tmp 7), (1, Operand.tmp 17), (2, Operand.tmp 20), (3, Operand.tmp 26), (4, Operand.tmp 29), (5, Operand.tmp 32), (6, Operand.tmp 35), (7, Operand.tmp 38), (8, Operand.tmp 41), (9, Operand.tmp 44)], type := 151, pos := "check.go:52", after := #[{ on := 2, ground := Ground.data }, { on := 12, ground := Ground.data }, { on := 15, ground := Ground.data }, { on := 21, ground := Ground.data }, { on := 24, ground := Ground.data }, { on := 27, ground := Ground.data }, { on := 30, ground := Ground.data }, { on := 33, ground := Ground.data }, { on := 36, ground := Ground.data }, { on := 39, ground := Ground.data }], guard := none }) (v := ?_) rfl (by kernel_rfl) (by kernel_rfl) (by kernel_rfl) (fun _ _ _ h => h) (Or.inl ⟨by rfl, ?_⟩) hHeld ?_
  rotate_left
  · (intro w hSw; (try dsimp only at hSw); go_simp; try with_reducible rfl)
  (try simp only [Act.put, List.setIfInBounds_toArray, List.set_cons_zero, List.set_cons_succ])
  refine wpAnyH_done (by kernel_rfl) ?_ _
  clear K1 hHeld
  obtain ⟨q0, q1, q2, q3, q4, q5, q6, q7, q8, q9⟩ := HQ.out
  rw [← q0, ← q1, ← q2, ← q3, ← q4, ← q5, ← q6, ← q7, ← q8, ← q9]
  have Q1 := Lib.hid q1
  generalize (if c.reply < 100 then c.reply else 100) = mm
  clear q0 q1 q2 q3 q4 q5 q6 q7 q8 q9
  generalize fieldsN c = f at *
  go_wp2
  go_loop [46] (fun s => ∃ i : Nat, i ≤ 10 ∧ s = .int .i64 i ∧ Hid (firstFrom f i (10 - i) = firstFrom f 0 10)) (fun s => 10 - (intOf s).toNat)
  case atStart => exact ⟨0, Nat.zero_le _, rfl, Lib.hid rfl⟩
  case round =>
    obtain ⟨k, hk, rfl, hinv⟩ := hrel
    have hk10 : k = 0 ∨ k = 1 ∨ k = 2 ∨ k = 3 ∨ k = 4 ∨ k = 5 ∨ k = 6 ∨ k = 7 ∨ k = 8 ∨ k = 9 ∨ k = 10 := by omega
    clear hk
    rcases hk10 with rfl | rfl | rfl | rfl | rfl | rfl | rfl | rfl | rfl | rfl | rfl
    · have x := it0
      rcases Bool.eq_false_or_eq_true (f 0) with h0 | h0
      · have HI : Hid (firstFrom f 1 (10 - 1) = firstFrom f 0 10) := Lib.hid (by rw [← hinv.out]; exact (first_yes h0).symm)
        go_wp2
        go_round
        case rel => exact ⟨1, by omega, rfl, HI⟩
        case measure => simp [intOf]
      · have E := Lib.hid (ten_some (f := f) (i := 0) (by rw [← hinv.out]; exact first_no h0))
        go_wp2_with fail
        refine (cfault_any _ _ _ _).mono ?_
        rintro e w4 ⟨rfl, rfl⟩
        go_wp2
        go_ret
        rw [HT.out, E.out]
        exact ⟨_, rfl, errIs_bad (by decide) (chain_one _ _ _ _), HB3.out.trans ((below_new _ _).mono HB3.out.size)⟩
    · have x := it1
      rcases Bool.eq_false_or_eq_true (f 1) with h0 | h0
      · have HI : Hid (firstFrom f 2 (10 - 2) = firstFrom f 0 10) := Lib.hid (by rw [← hinv.out]; exact (first_yes h0).symm)
        go_wp2
        go_round
        case rel => exact ⟨2, by omega, rfl, HI⟩
        case measure => simp [intOf]
      · have E := Lib.hid (ten_some (f := f) (i := 1) (by rw [← hinv.out]; exact first_no h0))
        go_wp2_with fail
        refine (cfault_any _ _ _ _).mono ?_
        rintro e w4 ⟨rfl, rfl⟩
        go_wp2
        go_ret
        rw [HT.out, E.out]
        exact ⟨_, rfl, errIs_bad (by decide) (chain_one _ _ _ _), HB3.out.trans ((below_new _ _).mono HB3.out.size)⟩
    · have x := it2
      rcases Bool.eq_false_or_eq_true (f 2) with h0 | h0
      · have HI : Hid (firstFrom f 3 (10 - 3) = firstFrom f 0 10) := Lib.hid (by rw [← hinv.out]; exact (first_yes h0).symm)
        go_wp2
        go_round
        case rel => exact ⟨3, by omega, rfl, HI⟩
        case measure => simp [intOf]
      · have E := Lib.hid (ten_some (f := f) (i := 2) (by rw [← hinv.out]; exact first_no h0))
        go_wp2_with fail
        refine (cfault_any _ _ _ _).mono ?_
        rintro e w4 ⟨rfl, rfl⟩
        go_wp2
        go_ret
        rw [HT.out, E.out]
        exact ⟨_, rfl, errIs_bad (by decide) (chain_one _ _ _ _), HB3.out.trans ((below_new _ _).mono HB3.out.size)⟩
    · have x := it3
      rcases Bool.eq_false_or_eq_true (f 3) with h0 | h0
      · have HI : Hid (firstFrom f 4 (10 - 4) = firstFrom f 0 10) := Lib.hid (by rw [← hinv.out]; exact (first_yes h0).symm)
        go_wp2
        go_round
        case rel => exact ⟨4, by omega, rfl, HI⟩
        case measure => simp [intOf]
      · have E := Lib.hid (ten_some (f := f) (i := 3) (by rw [← hinv.out]; exact first_no h0))
        go_wp2_with fail
        refine (cfault_any _ _ _ _).mono ?_
        rintro e w4 ⟨rfl, rfl⟩
        go_wp2
        go_ret
        rw [HT.out, E.out]
        exact ⟨_, rfl, errIs_bad (by decide) (chain_one _ _ _ _), HB3.out.trans ((below_new _ _).mono HB3.out.size)⟩
    · have x := it4
      rcases Bool.eq_false_or_eq_true (f 4) with h0 | h0
      · have HI : Hid (firstFrom f 5 (10 - 5) = firstFrom f 0 10) := Lib.hid (by rw [← hinv.out]; exact (first_yes h0).symm)
        go_wp2
        go_round
        case rel => exact ⟨5, by omega, rfl, HI⟩
        case measure => simp [intOf]
      · have E := Lib.hid (ten_some (f := f) (i := 4) (by rw [← hinv.out]; exact first_no h0))
        go_wp2_with fail
        refine (cfault_any _ _ _ _).mono ?_
        rintro e w4 ⟨rfl, rfl⟩
        go_wp2
        go_ret
        rw [HT.out, E.out]
        exact ⟨_, rfl, errIs_bad (by decide) (chain_one _ _ _ _), HB3.out.trans ((below_new _ _).mono HB3.out.size)⟩
    · have x := it5
      rcases Bool.eq_false_or_eq_true (f 5) with h0 | h0
      · have HI : Hid (firstFrom f 6 (10 - 6) = firstFrom f 0 10) := Lib.hid (by rw [← hinv.out]; exact (first_yes h0).symm)
        go_wp2
        go_round
        case rel => exact ⟨6, by omega, rfl, HI⟩
        case measure => simp [intOf]
      · have E := Lib.hid (ten_some (f := f) (i := 5) (by rw [← hinv.out]; exact first_no h0))
        go_wp2_with fail
        refine (cfault_any _ _ _ _).mono ?_
        rintro e w4 ⟨rfl, rfl⟩
        go_wp2
        go_ret
        rw [HT.out, E.out]
        exact ⟨_, rfl, errIs_bad (by decide) (chain_one _ _ _ _), HB3.out.trans ((below_new _ _).mono HB3.out.size)⟩
    · have x := it6
      rcases Bool.eq_false_or_eq_true (f 6) with h0 | h0
      · have HI : Hid (firstFrom f 7 (10 - 7) = firstFrom f 0 10) := Lib.hid (by rw [← hinv.out]; exact (first_yes h0).symm)
        go_wp2
        go_round
        case rel => exact ⟨7, by omega, rfl, HI⟩
        case measure => simp [intOf]
      · have E := Lib.hid (ten_some (f := f) (i := 6) (by rw [← hinv.out]; exact first_no h0))
        go_wp2_with fail
        refine (cfault_any _ _ _ _).mono ?_
        rintro e w4 ⟨rfl, rfl⟩
        go_wp2
        go_ret
        rw [HT.out, E.out]
        exact ⟨_, rfl, errIs_bad (by decide) (chain_one _ _ _ _), HB3.out.trans ((below_new _ _).mono HB3.out.size)⟩
    · have x := it7
      rcases Bool.eq_false_or_eq_true (f 7) with h0 | h0
      · have HI : Hid (firstFrom f 8 (10 - 8) = firstFrom f 0 10) := Lib.hid (by rw [← hinv.out]; exact (first_yes h0).symm)
        go_wp2
        go_round
        case rel => exact ⟨8, by omega, rfl, HI⟩
        case measure => simp [intOf]
      · have E := Lib.hid (ten_some (f := f) (i := 7) (by rw [← hinv.out]; exact first_no h0))
        go_wp2_with fail
        refine (cfault_any _ _ _ _).mono ?_
        rintro e w4 ⟨rfl, rfl⟩
        go_wp2
        go_ret
        rw [HT.out, E.out]
        exact ⟨_, rfl, errIs_bad (by decide) (chain_one _ _ _ _), HB3.out.trans ((below_new _ _).mono HB3.out.size)⟩
    · have x := it8
      rcases Bool.eq_false_or_eq_true (f 8) with h0 | h0
      · have HI : Hid (firstFrom f 9 (10 - 9) = firstFrom f 0 10) := Lib.hid (by rw [← hinv.out]; exact (first_yes h0).symm)
        go_wp2
        go_round
        case rel => exact ⟨9, by omega, rfl, HI⟩
        case measure => simp [intOf]
      · have E := Lib.hid (ten_some (f := f) (i := 8) (by rw [← hinv.out]; exact first_no h0))
        go_wp2_with fail
        refine (cfault_any _ _ _ _).mono ?_
        rintro e w4 ⟨rfl, rfl⟩
        go_wp2
        go_ret
        rw [HT.out, E.out]
        exact ⟨_, rfl, errIs_bad (by decide) (chain_one _ _ _ _), HB3.out.trans ((below_new _ _).mono HB3.out.size)⟩
    · have x := it9
      rcases Bool.eq_false_or_eq_true (f 9) with h0 | h0
      · have HI : Hid (firstFrom f 10 (10 - 10) = firstFrom f 0 10) := Lib.hid (by rw [← hinv.out]; exact (first_yes h0).symm)
        go_wp2
        go_round
        case rel => exact ⟨10, by omega, rfl, HI⟩
        case measure => simp [intOf]
      · have E := Lib.hid (ten_some (f := f) (i := 9) (by rw [← hinv.out]; exact first_no h0))
        go_wp2_with fail
        refine (cfault_any _ _ _ _).mono ?_
        rintro e w4 ⟨rfl, rfl⟩
        go_wp2
        go_ret
        rw [HT.out, E.out]
        exact ⟨_, rfl, errIs_bad (by decide) (chain_one _ _ _ _), HB3.out.trans ((below_new _ _).mono HB3.out.size)⟩
    · have E := Lib.hid (ten_none (f := f) (by rw [← hinv.out]; rfl))
      go_wp2
      go_ret
      rw [HT.out, E.out]
      exact ⟨_, rfl, errIs_ok rfl, HB3.out⟩

set_option maxRecDepth 100000 in
set_option maxHeartbeats 8000000 in
theorem fields_c (c : Cfg) (sl po pt ct : Value) (w : World) (hM : within c.master 0 65519 = false) : Calls Tryz.prog 64 #[cfgV c sl po pt ct] w (CheckIs w (fieldsR c)) := by
  have HB := Lib.hid (below_new w (.cells #[.int .i64 c.own, .int .i64 c.master, .bool c.unsol, .int .i64 c.reply, .int .i64 c.silence, .int .i64 c.retries, .int .i64 c.offline, .int .i64 c.select, .int .i64 c.confirm, .int .i64 c.frag, .int .i64 c.r0, .int .i64 c.r1, .int .i64 c.r2, sl, po, pt, ct] 28))
  have KX := Lib.hid (cfgBox_new w c sl po pt ct)
  have K1 := Lib.hid KX.out.fields
  have HMN := Lib.hid (show min 100 c.reply = (if c.reply < 100 then c.reply else 100) by split <;> omega)
  have HT := Lib.hid (show fieldsR c = TenIs (fieldsN c) from rfl)
  have hq0 : fieldsN c 0 = within c.own 0 65519 := rfl
  have hq1 : fieldsN c 1 = false := by simp [fieldsN, hM]
  have hq2 : fieldsN c 2 = within c.reply 1 10000 := rfl
  have hq3 : fieldsN c 3 = within c.silence 1 (if c.reply < 100 then c.reply else 100) := by show within c.silence 1 (min 100 c.reply) = _; rw [HMN.out]
  have hq4 : fieldsN c 4 = within c.retries 0 5 := rfl
  have hq5 : fieldsN c 5 = within c.offline 1 10 := rfl
  have hq6 : fieldsN c 6 = within c.select 1 10000 := rfl
  have hq7 : fieldsN c 7 = within c.confirm 1 10000 := rfl
  have hq8 : fieldsN c 8 = within c.frag 249 2048 := rfl
  have hq9 : fieldsN c 9 = roomN c.r0 c.r1 c.r2 := rfl
  have HQ := Lib.hid (And.intro hq0 (And.intro hq1 (And.intro hq2 (And.intro hq3 (And.intro hq4 (And.intro hq5 (And.intro hq6 (And.intro hq7 (And.intro hq8 hq9)))))))))
  clear hq0 hq1 hq2 hq3 hq4 hq5 hq6 hq7 hq8 hq9
  unfold cfgV
  go_enter Tryz.func64, Tryz.ntmps64
  go_wp2
  generalize hg : w.heap.size = g at KX K1 ⊢
  generalize w.alloc (.cells #[.int .i64 c.own, .int .i64 c.master, .bool c.unsol, .int .i64 c.reply, .int .i64 c.silence, .int .i64 c.retries, .int .i64 c.offline, .int .i64 c.select, .int .i64 c.confirm, .int .i64 c.frag, .int .i64 c.r0, .int .i64 c.r1, .int .i64 c.r2, sl, po, pt, ct] 28) = w1 at *
  refine wp_region_held_drew (S := fun w' => w'.cell? ⟨g, 0, none⟩ = some (.int .i64 c.own) ∧ w'.cell? ⟨g, 1, none⟩ = some (.int .i64 c.master) ∧ w'.cell? ⟨g, 2, none⟩ = some (.bool c.unsol) ∧ w'.cell? ⟨g, 3, none⟩ = some (.int .i64 c.reply) ∧ w'.cell? ⟨g, 4, none⟩ = some (.int .i64 c.silence) ∧ w'.cell? ⟨g, 5, none⟩ = some (.int .i64 c.retries) ∧ w'.cell? ⟨g, 6, none⟩ = some (.int .i64 c.offline) ∧ w'.cell? ⟨g, 7, none⟩ = some (.int .i64 c.select) ∧ w'.cell? ⟨g, 8, none⟩ = some (.int .i64 c.confirm) ∧ w'.cell? ⟨g, 9, none⟩ = some (.int .i64 c.frag) ∧ w'.cell? ⟨g, 10, none⟩ = some (.int .i64 c.r0) ∧ w'.cell? ⟨g, 11, none⟩ = some (.int .i64 c.r1) ∧ w'.cell? ⟨g, 12, none⟩ = some (.int .i64 c.r2)) (by kernel_rfl) K1.out (fun hHeld => ?_)
  refine wpAnyH_take (i := 0) (oi := { dst := some 5, op := Op.fieldAddr 28 (Operand.tmp 1) 0, type := 0, pos := "check.go:52", after := #[], guard := none }) (v := ?_) rfl (by kernel_rfl) (by kernel_rfl) (by kernel_rfl) (fun _ _ _ h => h) (Or.inl ⟨by rfl, ?_⟩) hHeld ?_
  rotate_left
  · (intro w hSw; (try dsimp only at hSw); go_simp; try with_reducible rfl)
  (try simp only [Act.put, List.setIfInBounds_toArray, List.set_cons_zero, List.set_cons_succ])
  refine wpAnyH_take (i := 1) (oi := { dst := some 6, op := Op.load 3 (Operand.tmp 5), type := 3, pos := "check.go:52", after := #[{ on := 0, ground := Ground.data }], guard := none }) (v := ?_) rfl (by kernel_rfl) (by kernel_rfl) (by kernel_rfl) (fun _ _ _ h => h) (Or.inl ⟨by rfl, ?_⟩) hHeld ?_
  rotate_left
  · (intro w hSw; (try dsimp only at hSw); go_simp; try with_reducible rfl)
  (try simp only [Act.put, List.setIfInBounds_toArray, List.set_cons_zero, List.set_cons_succ])
  refine wpAnyH_take (i := 3) (oi := { dst := some 8, op := Op.fieldAddr 28 (Operand.tmp 1) 1, type := 0, pos := "check.go:52", after := #[], guard := none }) (v := ?_) rfl (by kernel_rfl) (by kernel_rfl) (by kernel_rfl) (fun _ _ _ h => h) (Or.inl ⟨by rfl, ?_⟩) hHeld ?_
  rotate_left
  · (intro w hSw; (try dsimp only at hSw); go_simp; try with_reducible rfl)
  (try simp only [Act.put, List.setIfInBounds_toArray, List.set_cons_zero, List.set_cons_succ])
  refine wpAnyH_take (i := 4) (oi := { dst := some 9, op := Op.load 3 (Operand.tmp 8), type := 3, pos := "check.go:52", after := #[{ on := 3, ground := Ground.data }], guard := none }) (v := ?_) rfl (by kernel_rfl) (by kernel_rfl) (by kernel_rfl) (fun _ _ _ h => h) (Or.inl ⟨by rfl, ?_⟩) hHeld ?_
  rotate_left
  · (intro w hSw; (try dsimp only at hSw); go_simp; try with_reducible rfl)
  (try simp only [Act.put, List.setIfInBounds_toArray, List.set_cons_zero, List.set_cons_succ])
  refine wpAnyH_take (i := 13) (oi := { dst := some 18, op := Op.fieldAddr 28 (Operand.tmp 1) 3, type := 0, pos := "check.go:52", after := #[], guard := none }) (v := ?_) rfl (by kernel_rfl) (by kernel_rfl) (by kernel_rfl) (fun _ _ _ h => h) (Or.inl ⟨by rfl, ?_⟩) hHeld ?_
  rotate_left
  · (intro w hSw; (try dsimp only at hSw); go_simp; try with_reducible rfl)
  (try simp only [Act.put, List.setIfInBounds_toArray, List.set_cons_zero, List.set_cons_succ])
  refine wpAnyH_take (i := 14) (oi := { dst := some 19, op := Op.load 3 (Operand.tmp 18), type := 3, pos := "check.go:52", after := #[{ on := 13, ground := Ground.data }], guard := none }) (v := ?_) rfl (by kernel_rfl) (by kernel_rfl) (by kernel_rfl) (fun _ _ _ h => h) (Or.inl ⟨by rfl, ?_⟩) hHeld ?_
  rotate_left
  · (intro w hSw; (try dsimp only at hSw); go_simp; try with_reducible rfl)
  (try simp only [Act.put, List.setIfInBounds_toArray, List.set_cons_zero, List.set_cons_succ])
  refine wpAnyH_take (i := 16) (oi := { dst := some 21, op := Op.fieldAddr 28 (Operand.tmp 1) 4, type := 0, pos := "check.go:52", after := #[], guard := none }) (v := ?_) rfl (by kernel_rfl) (by kernel_rfl) (by kernel_rfl) (fun _ _ _ h => h) (Or.inl ⟨by rfl, ?_⟩) hHeld ?_
  rotate_left
  · (intro w hSw; (try dsimp only at hSw); go_simp; try with_reducible rfl)
  (try simp only [Act.put, List.setIfInBounds_toArray, List.set_cons_zero, List.set_cons_succ])
  refine wpAnyH_take (i := 17) (oi := { dst := some 22, op := Op.load 3 (Operand.tmp 21), type := 3, pos := "check.go:52", after := #[{ on := 16, ground := Ground.data }], guard := none }) (v := ?_) rfl (by kernel_rfl) (by kernel_rfl) (by kernel_rfl) (fun _ _ _ h => h) (Or.inl ⟨by rfl, ?_⟩) hHeld ?_
  rotate_left
  · (intro w hSw; (try dsimp only at hSw); go_simp; try with_reducible rfl)
  (try simp only [Act.put, List.setIfInBounds_toArray, List.set_cons_zero, List.set_cons_succ])
  refine wpAnyH_take (i := 18) (oi := { dst := some 23, op := Op.fieldAddr 28 (Operand.tmp 1) 3, type := 0, pos := "check.go:52", after := #[], guard := none }) (v := ?_) rfl (by kernel_rfl) (by kernel_rfl) (by kernel_rfl) (fun _ _ _ h => h) (Or.inl ⟨by rfl, ?_⟩) hHeld ?_
  rotate_left
  · (intro w hSw; (try dsimp only at hSw); go_simp; try with_reducible rfl)
  (try simp only [Act.put, List.setIfInBounds_toArray, List.set_cons_zero, List.set_cons_succ])
  refine wpAnyH_take (i := 19) (oi := { dst := some 24, op := Op.load 3 (Operand.tmp 23), type := 3, pos := "check.go:52", after := #[{ on := 18, ground := Ground.data }], guard := none }) (v := ?_) rfl (by kernel_rfl) (by kernel_rfl) (by kernel_rfl) (fun _ _ _ h => h) (Or.inl ⟨by rfl, ?_⟩) hHeld ?_
  rotate_left
  · (intro w hSw; (try dsimp only at hSw); go_simp; try with_reducible rfl)
  (try simp only [Act.put, List.setIfInBounds_toArray, List.set_cons_zero, List.set_cons_succ])
  refine wpAnyH_take (i := 20) (oi := { dst := some 25, op := Op.call { callee := Callee.builtin Builtin.min, args := #[Operand.const (Value.int IntKind.i64 100), Operand.tmp 24], argTypes := #[3, 3] }, type := 3, pos := "check.go:52", after := #[{ on := 19, ground := Ground.data }], guard := none }) (v := ?_) rfl (by kernel_rfl) (by kernel_rfl) (by kernel_rfl) (fun _ _ _ h => h) (Or.inl ⟨by rfl, ?_⟩) hHeld ?_
  rotate_left
  · (intro w hSw; (try dsimp only at hSw); go_simp; try with_reducible rfl)
  (try simp only [Act.put, List.setIfInBounds_toArray, List.set_cons_zero, List.set_cons_succ])
  refine wpAnyH_take (i := 22) (oi := { dst := some 27, op := Op.fieldAddr 28 (Operand.tmp 1) 5, type := 0, pos := "check.go:52", after := #[], guard := none }) (v := ?_) rfl (by kernel_rfl) (by kernel_rfl) (by kernel_rfl) (fun _ _ _ h => h) (Or.inl ⟨by rfl, ?_⟩) hHeld ?_
  rotate_left
  · (intro w hSw; (try dsimp only at hSw); go_simp; try with_reducible rfl)
  (try simp only [Act.put, List.setIfInBounds_toArray, List.set_cons_zero, List.set_cons_succ])
  refine wpAnyH_take (i := 23) (oi := { dst := some 28, op := Op.load 3 (Operand.tmp 27), type := 3, pos := "check.go:52", after := #[{ on := 22, ground := Ground.data }], guard := none }) (v := ?_) rfl (by kernel_rfl) (by kernel_rfl) (by kernel_rfl) (fun _ _ _ h => h) (Or.inl ⟨by rfl, ?_⟩) hHeld ?_
  rotate_left
  · (intro w hSw; (try dsimp only at hSw); go_simp; try with_reducible rfl)
  (try simp only [Act.put, List.setIfInBounds_toArray, List.set_cons_zero, List.set_cons_succ])
  refine wpAnyH_take (i := 25) (oi := { dst := some 30, op := Op.fieldAddr 28 (Operand.tmp 1) 6, type := 0, pos := "check.go:52", after := #[], guard := none }) (v := ?_) rfl (by kernel_rfl) (by kernel_rfl) (by kernel_rfl) (fun _ _ _ h => h) (Or.inl ⟨by rfl, ?_⟩) hHeld ?_
  rotate_left
  · (intro w hSw; (try dsimp only at hSw); go_simp; try with_reducible rfl)
  (try simp only [Act.put, List.setIfInBounds_toArray, List.set_cons_zero, List.set_cons_succ])
  refine wpAnyH_take (i := 26) (oi := { dst := some 31, op := Op.load 3 (Operand.tmp 30), type := 3, pos := "check.go:52", after := #[{ on := 25, ground := Ground.data }], guard := none }) (v := ?_) rfl (by kernel_rfl) (by kernel_rfl) (by kernel_rfl) (fun _ _ _ h => h) (Or.inl ⟨by rfl, ?_⟩) hHeld ?_
  rotate_left
  · (intro w hSw; (try dsimp only at hSw); go_simp; try with_reducible rfl)
  (try simp only [Act.put, List.setIfInBounds_toArray, List.set_cons_zero, List.set_cons_succ])
  refine wpAnyH_take (i := 28) (oi := { dst := some 33, op := Op.fieldAddr 28 (Operand.tmp 1) 7, type := 0, pos := "check.go:52", after := #[], guard := none }) (v := ?_) rfl (by kernel_rfl) (by kernel_rfl) (by kernel_rfl) (fun _ _ _ h => h) (Or.inl ⟨by rfl, ?_⟩) hHeld ?_
  rotate_left
  · (intro w hSw; (try dsimp only at hSw); go_simp; try with_reducible rfl)
  (try simp only [Act.put, List.setIfInBounds_toArray, List.set_cons_zero, List.set_cons_succ])
  refine wpAnyH_take (i := 29) (oi := { dst := some 34, op := Op.load 3 (Operand.tmp 33), type := 3, pos := "check.go:52", after := #[{ on := 28, ground := Ground.data }], guard := none }) (v := ?_) rfl (by kernel_rfl) (by kernel_rfl) (by kernel_rfl) (fun _ _ _ h => h) (Or.inl ⟨by rfl, ?_⟩) hHeld ?_
  rotate_left
  · (intro w hSw; (try dsimp only at hSw); go_simp; try with_reducible rfl)
  (try simp only [Act.put, List.setIfInBounds_toArray, List.set_cons_zero, List.set_cons_succ])
  refine wpAnyH_take (i := 31) (oi := { dst := some 36, op := Op.fieldAddr 28 (Operand.tmp 1) 8, type := 0, pos := "check.go:52", after := #[], guard := none }) (v := ?_) rfl (by kernel_rfl) (by kernel_rfl) (by kernel_rfl) (fun _ _ _ h => h) (Or.inl ⟨by rfl, ?_⟩) hHeld ?_
  rotate_left
  · (intro w hSw; (try dsimp only at hSw); go_simp; try with_reducible rfl)
  (try simp only [Act.put, List.setIfInBounds_toArray, List.set_cons_zero, List.set_cons_succ])
  refine wpAnyH_take (i := 32) (oi := { dst := some 37, op := Op.load 3 (Operand.tmp 36), type := 3, pos := "check.go:52", after := #[{ on := 31, ground := Ground.data }], guard := none }) (v := ?_) rfl (by kernel_rfl) (by kernel_rfl) (by kernel_rfl) (fun _ _ _ h => h) (Or.inl ⟨by rfl, ?_⟩) hHeld ?_
  rotate_left
  · (intro w hSw; (try dsimp only at hSw); go_simp; try with_reducible rfl)
  (try simp only [Act.put, List.setIfInBounds_toArray, List.set_cons_zero, List.set_cons_succ])
  refine wpAnyH_take (i := 34) (oi := { dst := some 39, op := Op.fieldAddr 28 (Operand.tmp 1) 9, type := 0, pos := "check.go:52", after := #[], guard := none }) (v := ?_) rfl (by kernel_rfl) (by kernel_rfl) (by kernel_rfl) (fun _ _ _ h => h) (Or.inl ⟨by rfl, ?_⟩) hHeld ?_
  rotate_left
  · (intro w hSw; (try dsimp only at hSw); go_simp; try with_reducible rfl)
  (try simp only [Act.put, List.setIfInBounds_toArray, List.set_cons_zero, List.set_cons_succ])
  refine wpAnyH_take (i := 35) (oi := { dst := some 40, op := Op.load 3 (Operand.tmp 39), type := 3, pos := "check.go:52", after := #[{ on := 34, ground := Ground.data }], guard := none }) (v := ?_) rfl (by kernel_rfl) (by kernel_rfl) (by kernel_rfl) (fun _ _ _ h => h) (Or.inl ⟨by rfl, ?_⟩) hHeld ?_
  rotate_left
  · (intro w hSw; (try dsimp only at hSw); go_simp; try with_reducible rfl)
  (try simp only [Act.put, List.setIfInBounds_toArray, List.set_cons_zero, List.set_cons_succ])
  refine wpAnyH_take (i := 37) (oi := { dst := some 42, op := Op.fieldAddr 28 (Operand.tmp 1) 10, type := 0, pos := "check.go:52", after := #[], guard := none }) (v := ?_) rfl (by kernel_rfl) (by kernel_rfl) (by kernel_rfl) (fun _ _ _ h => h) (Or.inl ⟨by rfl, ?_⟩) hHeld ?_
  rotate_left
  · (intro w hSw; (try dsimp only at hSw); go_simp; try with_reducible rfl)
  (try simp only [Act.put, List.setIfInBounds_toArray, List.set_cons_zero, List.set_cons_succ])
  refine wpAnyH_take (i := 38) (oi := { dst := some 43, op := Op.load 22 (Operand.tmp 42), type := 22, pos := "check.go:52", after := #[{ on := 37, ground := Ground.data }], guard := none }) (v := ?_) rfl (by kernel_rfl) (by kernel_rfl) (by kernel_rfl) (fun _ _ _ h => h) (Or.inl ⟨by rfl, ?_⟩) hHeld ?_
  rotate_left
  · (intro w hSw; (try dsimp only at hSw); go_simp; try with_reducible rfl)
  (try simp only [Act.put, List.setIfInBounds_toArray, List.set_cons_zero, List.set_cons_succ])
  refine wpAnyH_take (i := 41) (oi := { dst := some 46, op := Op.move (Operand.const (Value.int IntKind.i64 0)), type := 3, pos := "check.go:52", after := #[], guard := none }) (v := ?_) rfl (by kernel_rfl) (by kernel_rfl) (by kernel_rfl) (fun _ _ _ h => h) (Or.inl ⟨by rfl, ?_⟩) hHeld ?_
  rotate_left
  · (intro w hSw; (try dsimp only at hSw); go_simp; try with_reducible rfl)
  (try simp only [Act.put, List.setIfInBounds_toArray, List.set_cons_zero, List.set_cons_succ])
  refine wpAnyH_ready (rs := [2]) (by kernel_rfl) (by simp) ?_
  refine AllReadyH.cons (o := { dst := some 7, op := Op.call { callee := Callee.value (Operand.func 104), args := #[Operand.tmp 6, Operand.const (Value.int IntKind.i64 0), Operand.const (Value.int IntKind.i64 65519)], argTypes := #[3, 3, 3] }, type := 4, pos := "check.go:53", after := #[{ on := 1, ground := Ground.data }], guard := none }) rfl (fun K hK => ?_) AllReadyH.nil
  go_simp
  refine (cw_s _ _ _ _).mono ?_; rintro e' w9 ⟨rfl, hh⟩; subst hh; simp only []
  refine hK.out _ _ hHeld (fun hHeld => ?_)
  clear hK K
  (try simp only [Act.put, List.setIfInBounds_toArray, List.set_cons_zero, List.set_cons_succ])
  refine wpAnyH_ready (rs := [5]) (by kernel_rfl) (by simp) ?_
  refine AllReadyH.cons (o := { dst := some 10, op := Op.call { callee := Callee.value (Operand.func 104), args := #[Operand.tmp 9, Operand.const (Value.int IntKind.i64 0), Operand.const (Value.int IntKind.i64 65519)], argTypes := #[3, 3, 3] }, type := 4, pos := "check.go:54", after := #[{ on := 4, ground := Ground.data }, { on := 2, ground := Ground.chain }], guard := none }) rfl (fun K hK => ?_) AllReadyH.nil
  go_simp
  refine (cw_q hM _).mono ?_; rintro e' w9 ⟨rfl, hh⟩; subst hh; simp only []
  refine hK.out _ _ hHeld (fun hHeld => ?_)
  clear hK K
  (try simp only [Act.put, List.setIfInBounds_toArray, List.set_cons_zero, List.set_cons_succ])
  refine wpAnyH_take (i := 6) (oi := { dst := some 11, op := Op.move (Operand.tmp 10), type := 4, pos := "check.go:52", after := #[{ on := 5, ground := Ground.data }, { on := 5, ground := Ground.chain }], guard := none }) (v := ?_) rfl (by kernel_rfl) (by kernel_rfl) (by kernel_rfl) (fun _ _ _ h => h) (Or.inl ⟨by rfl, ?_⟩) hHeld ?_
  rotate_left
  · (intro w hSw; (try dsimp only at hSw); go_simp; try with_reducible rfl)
  (try simp only [Act.put, List.setIfInBounds_toArray, List.set_cons_zero, List.set_cons_succ])
  refine wpAnyH_take (i := 7) (oi := { dst := some 12, op := Op.fieldAddr 28 (Operand.tmp 1) 1, type := 0, pos := "check.go:52", after := #[{ on := 6, ground := Ground.guard }], guard := some (6, true) }) (v := undef) rfl (by kernel_rfl) (by kernel_rfl) (by kernel_rfl) (fun _ _ _ h => h) (Or.inr ⟨by rfl, rfl⟩) hHeld ?_
  (try simp only [Act.put, List.setIfInBounds_toArray, List.set_cons_zero, List.set_cons_succ])
  refine wpAnyH_take (i := 8) (oi := { dst := some 13, op := Op.load 3 (Operand.tmp 12), type := 3, pos := "check.go:52", after := #[{ on := 7, ground := Ground.data }, { on := 6, ground := Ground.guard }], guard := some (6, true) }) (v := undef) rfl (by kernel_rfl) (by kernel_rfl) (by kernel_rfl) (fun _ _ _ h => h) (Or.inr ⟨by rfl, rfl⟩) hHeld ?_
  (try simp only [Act.put, List.setIfInBounds_toArray, List.set_cons_zero, List.set_cons_succ])
  refine wpAnyH_take (i := 9) (oi := { dst := some 14, op := Op.fieldAddr 28 (Operand.tmp 1) 0, type := 0, pos := "check.go:52", after := #[{ on := 6, ground := Ground.guard }], guard := some (6, true) }) (v := undef) rfl (by kernel_rfl) (by kernel_rfl) (by kernel_rfl) (fun _ _ _ h => h) (Or.inr ⟨by rfl, rfl⟩) hHeld ?_
  (try simp only [Act.put, List.setIfInBounds_toArray, List.set_cons_zero, List.set_cons_succ])
  refine wpAnyH_take (i := 10) (oi := { dst := some 15, op := Op.load 3 (Operand.tmp 14), type := 3, pos := "check.go:52", after := #[{ on := 9, ground := Ground.data }, { on := 6, ground := Ground.guard }], guard := some (6, true) }) (v := undef) rfl (by kernel_rfl) (by kernel_rfl) (by kernel_rfl) (fun _ _ _ h => h) (Or.inr ⟨by rfl, rfl⟩) hHeld ?_
  (try simp only [Act.put, List.setIfInBounds_toArray, List.set_cons_zero, List.set_cons_succ])
  refine wpAnyH_take (i := 11) (oi := { dst := some 16, op := Op.binOp BinOp.neq 3 (Operand.tmp 13) (Operand.tmp 15) 3, type := 4, pos := "check.go:52", after := #[{ on := 8, ground := Ground.data }, { on := 10, ground := Ground.data }, { on := 6, ground := Ground.guard }], guard := some (6, true) }) (v := undef) rfl (by kernel_rfl) (by kernel_rfl) (by kernel_rfl) (fun _ _ _ h => h) (Or.inr ⟨by rfl, rfl⟩) hHeld ?_
  (try simp only [Act.put, List.setIfInBounds_toArray, List.set_cons_zero, List.set_cons_succ])
  refine wpAnyH_take (i := 12) (oi := { dst := some 17, op := Op.pick (Operand.tmp 11) (Operand.tmp 16) (Operand.const (Value.bool false)), type := 4, pos := "check.go:52", after := #[{ on := 6, ground := Ground.data }, { on := 11, ground := Ground.data }], guard := none }) (v := ?_) rfl (by kernel_rfl) (by kernel_rfl) (by kernel_rfl) (fun _ _ _ h => h) (Or.inl ⟨by rfl, ?_⟩) hHeld ?_
  rotate_left
  · (intro w hSw; (try dsimp only at hSw); go_simp; try with_reducible rfl)
  (try simp only [Act.put, List.setIfInBounds_toArray, List.set_cons_zero, List.set_cons_succ])
  refine wpAnyH_ready (rs := [15]) (by kernel_rfl) (by simp) ?_
  refine AllReadyH.cons (o := { dst := some 20, op := Op.call { callee := Callee.value (Operand.func 104), args := #[Operand.tmp 19, Operand.const (Value.int IntKind.i64 1), Operand.const (Value.int IntKind.i64 10000)], argTypes := #[3, 3, 3] }, type := 4, pos := "check.go:55", after := #[{ on := 14, ground := Ground.data }, { on := 6, ground := Ground.chain }], guard := none }) rfl (fun K hK => ?_) AllReadyH.nil
  go_simp
  refine (cw_s _ _ _ _).mono ?_; rintro e' w9 ⟨rfl, hh⟩; subst hh; simp only []
  refine hK.out _ _ hHeld (fun hHeld => ?_)
  clear hK K
  (try simp only [Act.put, List.setIfInBounds_toArray, List.set_cons_zero, List.set_cons_succ])
  refine wpAnyH_ready (rs := [21]) (by kernel_rfl) (by simp) ?_
  refine AllReadyH.cons (o := { dst := some 26, op := Op.call { callee := Callee.value (Operand.func 104), args := #[Operand.tmp 22, Operand.const (Value.int IntKind.i64 1), Operand.tmp 25], argTypes := #[3, 3, 3] }, type := 4, pos := "check.go:56", after := #[{ on := 17, ground := Ground.data }, { on := 20, ground := Ground.data }, { on := 15, ground := Ground.chain }], guard := none }) rfl (fun K hK => ?_) AllReadyH.nil
  go_simp
  refine (cw_s _ _ _ _).mono ?_; rintro e' w9 ⟨rfl, hh⟩; subst hh; simp only []
  refine hK.out _ _ hHeld (fun hHeld => ?_)
  clear hK K
  (try simp only [Act.put, List.setIfInBounds_toArray, List.set_cons_zero, List.set_cons_succ])
  refine wpAnyH_ready (rs := [24]) (by kernel_rfl) (by simp) ?_
  refine AllReadyH.cons (o := { dst := some 29, op := Op.call { callee := Callee.value (Operand.func 104), args := #[Operand.tmp 28, Operand.const (Value.int IntKind.i64 0), Operand.const (Value.int IntKind.i64 5)], argTypes := #[3, 3, 3] }, type := 4, pos := "check.go:57", after := #[{ on := 23, ground := Ground.data }, { on := 21, ground := Ground.chain }], guard := none }) rfl (fun K hK => ?_) AllReadyH.nil
  go_simp
  refine (cw_s _ _ _ _).mono ?_; rintro e' w9 ⟨rfl, hh⟩; subst hh; simp only []
  refine hK.out _ _ hHeld (fun hHeld => ?_)
  clear hK K
  (try simp only [Act.put, List.setIfInBounds_toArray, List.set_cons_zero, List.set_cons_succ])
  refine wpAnyH_ready (rs := [27]) (by kernel_rfl) (by simp) ?_
  refine AllReadyH.cons (o := { dst := some 32, op := Op.call { callee := Callee.value (Operand.func 104), args := #[Operand.tmp 31, Operand.const (Value.int IntKind.i64 1), Operand.const (Value.int IntKind.i64 10)], argTypes := #[3, 3, 3] }, type := 4, pos := "check.go:58", after := #[{ on := 26, ground := Ground.data }, { on := 24, ground := Ground.chain }], guard := none }) rfl (fun K hK => ?_) AllReadyH.nil
  go_simp
  refine (cw_s _ _ _ _).mono ?_; rintro e' w9 ⟨rfl, hh⟩; subst hh; simp only []
  refine hK.out _ _ hHeld (fun hHeld => ?_)
  clear hK K
  (try simp only [Act.put, List.setIfInBounds_toArray, List.set_cons_zero, List.set_cons_succ])
  refine wpAnyH_ready (rs := [30]) (by kernel_rfl) (by simp) ?_
  refine AllReadyH.cons (o := { dst := some 35, op := Op.call { callee := Callee.value (Operand.func 104), args := #[Operand.tmp 34, Operand.const (Value.int IntKind.i64 1), Operand.const (Value.int IntKind.i64 10000)], argTypes := #[3, 3, 3] }, type := 4, pos := "check.go:59", after := #[{ on := 29, ground := Ground.data }, { on := 27, ground := Ground.chain }], guard := none }) rfl (fun K hK => ?_) AllReadyH.nil
  go_simp
  refine (cw_s _ _ _ _).mono ?_; rintro e' w9 ⟨rfl, hh⟩; subst hh; simp only []
  refine hK.out _ _ hHeld (fun hHeld => ?_)
  clear hK K
  (try simp only [Act.put, List.setIfInBounds_toArray, List.set_cons_zero, List.set_cons_succ])
  refine wpAnyH_ready (rs := [33]) (by kernel_rfl) (by simp) ?_
  refine AllReadyH.cons (o := { dst := some 38, op := Op.call { callee := Callee.value (Operand.func 104), args := #[Operand.tmp 37, Operand.const (Value.int IntKind.i64 1), Operand.const (Value.int IntKind.i64 10000)], argTypes := #[3, 3, 3] }, type := 4, pos := "check.go:60", after := #[{ on := 32, ground := Ground.data }, { on := 30, ground := Ground.chain }], guard := none }) rfl (fun K hK => ?_) AllReadyH.nil
  go_simp
  refine (cw_s _ _ _ _).mono ?_; rintro e' w9 ⟨rfl, hh⟩; subst hh; simp only []
  refine hK.out _ _ hHeld (fun hHeld => ?_)
  clear hK K
  (try simp only [Act.put, List.setIfInBounds_toArray, List.set_cons_zero, List.set_cons_succ])
  refine wpAnyH_ready (rs := [36]) (by kernel_rfl) (by simp) ?_
  refine AllReadyH.cons (o := { dst := some 41, op := Op.call { callee := Callee.value (Operand.func 104), args := #[Operand.tmp 40, Operand.const (Value.int IntKind.i64 249), Operand.const (Value.int IntKind.i64 2048)], argTypes := #[3, 3, 3] }, type := 4, pos := "check.go:61", after := #[{ on := 35, ground := Ground.data }, { on := 33, ground := Ground.chain }], guard := none }) rfl (fun K hK => ?_) AllReadyH.nil
  go_simp
  refine (cw_s _ _ _ _).mono ?_; rintro e' w9 ⟨rfl, hh⟩; subst hh; simp only []
  refine hK.out _ _ hHeld (fun hHeld => ?_)
  clear hK K
  (try simp only [Act.put, List.setIfInBounds_toArray, List.set_cons_zero, List.set_cons_succ])
  refine wpAnyH_ready (rs := [39]) (by kernel_rfl) (by simp) ?_
  refine AllReadyH.cons (o := { dst := some 44, op := Op.call { callee := Callee.value (Operand.func 105), args := #[Operand.tmp 43], argTypes := #[22] }, type := 4, pos := "check.go:62", after := #[{ on := 38, ground := Ground.data }, { on := 36, ground := Ground.chain }], guard := none }) rfl (fun K hK => ?_) AllReadyH.nil
  go_simp
  refine (room_any _ _ _ _).mono ?_; rintro e' w3 ⟨rfl, hh⟩; have HB3 := Lib.hid ((below_drewN HB.out 1).trans (hh.mono HB.out.size)); have K3 := Lib.hid (CfgBox.on (w := w1.drew) KX.out hh).fields; clear hh hHeld; simp only []
  refine hK.out _ _ K3.out (fun hHeld => ?_)
  clear hK K
  (try simp only [Act.put, List.setIfInBounds_toArray, List.set_cons_zero, List.set_cons_succ])
  refine wpAnyH_take (i := 40) (oi := { dst := some 45, op := Op.build 151 #[(0, Operand.tmp 7), (1, Operand.tmp 17), (2, Operand.tmp 20), (3, Operand.tmp 26), (4, Operand.tmp 29), (5, Operand.tmp 32), (6, Operand.tmp 35), (7, Operand.tmp 38), (8, Operand.tmp 41), (9, Operand.tmp 44)], type := 151, pos := "check.go:52", after := #[{ on := 2, ground := Ground.data }, { on := 12, ground := Ground.data }, { on := 15, ground := Ground.data }, { on := 21, ground := Ground.data }, { on := 24, ground := Ground.data }, { on := 27, ground := Ground.data }, { on := 30, ground := Ground.data }, { on := 33, ground := Ground.data }, { on := 36, ground := Ground.data }, { on := 39, ground := Ground.data }], guard := none }) (v := ?_) rfl (by kernel_rfl) (by kernel_rfl) (by kernel_rfl) (fun _ _ _ h => h) (Or.inl ⟨by rfl, ?_⟩) hHeld ?_
  rotate_left
  · (intro w hSw; (try dsimp only at hSw); go_simp; try with_reducible rfl)
  (try simp only [Act.put, List.setIfInBounds_toArray, List.set_cons_zero, List.set_cons_succ])
  refine wpAnyH_done (by kernel_rfl) ?_ _
  clear K1 hHeld
  obtain ⟨q0, q1, q2, q3, q4, q5, q6, q7, q8, q9⟩ := HQ.out
  rw [← q0, ← q2, ← q3, ← q4, ← q5, ← q6, ← q7, ← q8, ← q9]
  have Q1 := Lib.hid q1
  generalize (if c.reply < 100 then c.reply else 100) = mm
  clear q0 q1 q2 q3 q4 q5 q6 q7 q8 q9
  generalize fieldsN c = f at *
  go_wp2
  go_loop [46] (fun s => ∃ i : Nat, i ≤ 10 ∧ s = .int .i64 i ∧ Hid (firstFrom f i (10 - i) = firstFrom f 0 10)) (fun s => 10 - (intOf s).toNat)
  case atStart => exact ⟨0, Nat.zero_le _, rfl, Lib.hid rfl⟩
  case round =>
    obtain ⟨k, hk, rfl, hinv⟩ := hrel
    have hk10 : k = 0 ∨ k = 1 ∨ k = 2 ∨ k = 3 ∨ k = 4 ∨ k = 5 ∨ k = 6 ∨ k = 7 ∨ k = 8 ∨ k = 9 ∨ k = 10 := by omega
    clear hk
    rcases hk10 with rfl | rfl | rfl | rfl | rfl | rfl | rfl | rfl | rfl | rfl | rfl
    · have x := it0
      rcases Bool.eq_false_or_eq_true (f 0) with h0 | h0
      · have HI : Hid (firstFrom f 1 (10 - 1) = firstFrom f 0 10) := Lib.hid (by rw [← hinv.out]; exact (first_yes h0).symm)
        go_wp2
        go_round
        case rel => exact ⟨1, by omega, rfl, HI⟩
        case measure => simp [intOf]
      · have E := Lib.hid (ten_some (f := f) (i := 0) (by rw [← hinv.out]; exact first_no h0))
        go_wp2_with fail
        refine (cfault_any _ _ _ _).mono ?_
        rintro e w4 ⟨rfl, rfl⟩
        go_wp2
        go_ret
        rw [HT.out, E.out]
        exact ⟨_, rfl, errIs_bad (by decide) (chain_one _ _ _ _), HB3.out.trans ((below_new _ _).mono HB3.out.size)⟩
    · have h0 : f 1 = false := Q1.out
      have x := it1
      have E := Lib.hid (ten_some (f := f) (i := 1) (by rw [← hinv.out]; exact first_no h0))
      go_wp2_with fail
      refine (cfault_any _ _ _ _).mono ?_
      rintro e w4 ⟨rfl, rfl⟩
      go_wp2
      go_ret
      rw [HT.out, E.out]
      exact ⟨_, rfl, errIs_bad (by decide) (chain_one _ _ _ _), HB3.out.trans ((below_new _ _).mono HB3.out.size)⟩
    · have x := it2
      rcases Bool.eq_false_or_eq_true (f 2) with h0 | h0
      · have HI : Hid (firstFrom f 3 (10 - 3) = firstFrom f 0 10) := Lib.hid (by rw [← hinv.out]; exact (first_yes h0).symm)
        go_wp2
        go_round
        case rel => exact ⟨3, by omega, rfl, HI⟩
        case measure => simp [intOf]
      · have E := Lib.hid (ten_some (f := f) (i := 2) (by rw [← hinv.out]; exact first_no h0))
        go_wp2_with fail
        refine (cfault_any _ _ _ _).mono ?_
        rintro e w4 ⟨rfl, rfl⟩
        go_wp2
        go_ret
        rw [HT.out, E.out]
        exact ⟨_, rfl, errIs_bad (by decide) (chain_one _ _ _ _), HB3.out.trans ((below_new _ _).mono HB3.out.size)⟩
    · have x := it3
      rcases Bool.eq_false_or_eq_true (f 3) with h0 | h0
      · have HI : Hid (firstFrom f 4 (10 - 4) = firstFrom f 0 10) := Lib.hid (by rw [← hinv.out]; exact (first_yes h0).symm)
        go_wp2
        go_round
        case rel => exact ⟨4, by omega, rfl, HI⟩
        case measure => simp [intOf]
      · have E := Lib.hid (ten_some (f := f) (i := 3) (by rw [← hinv.out]; exact first_no h0))
        go_wp2_with fail
        refine (cfault_any _ _ _ _).mono ?_
        rintro e w4 ⟨rfl, rfl⟩
        go_wp2
        go_ret
        rw [HT.out, E.out]
        exact ⟨_, rfl, errIs_bad (by decide) (chain_one _ _ _ _), HB3.out.trans ((below_new _ _).mono HB3.out.size)⟩
    · have x := it4
      rcases Bool.eq_false_or_eq_true (f 4) with h0 | h0
      · have HI : Hid (firstFrom f 5 (10 - 5) = firstFrom f 0 10) := Lib.hid (by rw [← hinv.out]; exact (first_yes h0).symm)
        go_wp2
        go_round
        case rel => exact ⟨5, by omega, rfl, HI⟩
        case measure => simp [intOf]
      · have E := Lib.hid (ten_some (f := f) (i := 4) (by rw [← hinv.out]; exact first_no h0))
        go_wp2_with fail
        refine (cfault_any _ _ _ _).mono ?_
        rintro e w4 ⟨rfl, rfl⟩
        go_wp2
        go_ret
        rw [HT.out, E.out]
        exact ⟨_, rfl, errIs_bad (by decide) (chain_one _ _ _ _), HB3.out.trans ((below_new _ _).mono HB3.out.size)⟩
    · have x := it5
      rcases Bool.eq_false_or_eq_true (f 5) with h0 | h0
      · have HI : Hid (firstFrom f 6 (10 - 6) = firstFrom f 0 10) := Lib.hid (by rw [← hinv.out]; exact (first_yes h0).symm)
        go_wp2
        go_round
        case rel => exact ⟨6, by omega, rfl, HI⟩
        case measure => simp [intOf]
      · have E := Lib.hid (ten_some (f := f) (i := 5) (by rw [← hinv.out]; exact first_no h0))
        go_wp2_with fail
        refine (cfault_any _ _ _ _).mono ?_
        rintro e w4 ⟨rfl, rfl⟩
        go_wp2
        go_ret
        rw [HT.out, E.out]
        exact ⟨_, rfl, errIs_bad (by decide) (chain_one _ _ _ _), HB3.out.trans ((below_new _ _).mono HB3.out.size)⟩
    · have x := it6
      rcases Bool.eq_false_or_eq_true (f 6) with h0 | h0
      · have HI : Hid (firstFrom f 7 (10 - 7) = firstFrom f 0 10) := Lib.hid (by rw [← hinv.out]; exact (first_yes h0).symm)
        go_wp2
        go_round
        case rel => exact ⟨7, by omega, rfl, HI⟩
        case measure => simp [intOf]
      · have E := Lib.hid (ten_some (f := f) (i := 6) (by rw [← hinv.out]; exact first_no h0))
        go_wp2_with fail
        refine (cfault_any _ _ _ _).mono ?_
        rintro e w4 ⟨rfl, rfl⟩
        go_wp2
        go_ret
        rw [HT.out, E.out]
        exact ⟨_, rfl, errIs_bad (by decide) (chain_one _ _ _ _), HB3.out.trans ((below_new _ _).mono HB3.out.size)⟩
    · have x := it7
      rcases Bool.eq_false_or_eq_true (f 7) with h0 | h0
      · have HI : Hid (firstFrom f 8 (10 - 8) = firstFrom f 0 10) := Lib.hid (by rw [← hinv.out]; exact (first_yes h0).symm)
        go_wp2
        go_round
        case rel => exact ⟨8, by omega, rfl, HI⟩
        case measure => simp [intOf]
      · have E := Lib.hid (ten_some (f := f) (i := 7) (by rw [← hinv.out]; exact first_no h0))
        go_wp2_with fail
        refine (cfault_any _ _ _ _).mono ?_
        rintro e w4 ⟨rfl, rfl⟩
        go_wp2
        go_ret
        rw [HT.out, E.out]
        exact ⟨_, rfl, errIs_bad (by decide) (chain_one _ _ _ _), HB3.out.trans ((below_new _ _).mono HB3.out.size)⟩
    · have x := it8
      rcases Bool.eq_false_or_eq_true (f 8) with h0 | h0
      · have HI : Hid (firstFrom f 9 (10 - 9) = firstFrom f 0 10) := Lib.hid (by rw [← hinv.out]; exact (first_yes h0).symm)
        go_wp2
        go_round
        case rel => exact ⟨9, by omega, rfl, HI⟩
        case measure => simp [intOf]
      · have E := Lib.hid (ten_some (f := f) (i := 8) (by rw [← hinv.out]; exact first_no h0))
        go_wp2_with fail
        refine (cfault_any _ _ _ _).mono ?_
        rintro e w4 ⟨rfl, rfl⟩
        go_wp2
        go_ret
        rw [HT.out, E.out]
        exact ⟨_, rfl, errIs_bad (by decide) (chain_one _ _ _ _), HB3.out.trans ((below_new _ _).mono HB3.out.size)⟩
    · have x := it9
      rcases Bool.eq_false_or_eq_true (f 9) with h0 | h0
      · have HI : Hid (firstFrom f 10 (10 - 10) = firstFrom f 0 10) := Lib.hid (by rw [← hinv.out]; exact (first_yes h0).symm)
        go_wp2
        go_round
        case rel => exact ⟨10, by omega, rfl, HI⟩
        case measure => simp [intOf]
      · have E := Lib.hid (ten_some (f := f) (i := 9) (by rw [← hinv.out]; exact first_no h0))
        go_wp2_with fail
        refine (cfault_any _ _ _ _).mono ?_
        rintro e w4 ⟨rfl, rfl⟩
        go_wp2
        go_ret
        rw [HT.out, E.out]
        exact ⟨_, rfl, errIs_bad (by decide) (chain_one _ _ _ _), HB3.out.trans ((below_new _ _).mono HB3.out.size)⟩
    · have E := Lib.hid (ten_none (f := f) (by rw [← hinv.out]; rfl))
      go_wp2
      go_ret
      rw [HT.out, E.out]
      exact ⟨_, rfl, errIs_ok rfl, HB3.out⟩

theorem fields_any (c : Cfg) (sl po pt ct : Value) (w : World) : Calls Tryz.prog 64 #[cfgV c sl po pt ct] w (CheckIs w (fieldsR c)) := by
  rcases Bool.eq_false_or_eq_true (within c.master 0 65519) with hM | hM
  · exact fields_a c sl po pt ct w hM
  · exact fields_c c sl po pt ct w hM

end Go.Proofs.YtpocjmlkhophoaaGreatDoor
