/- How structs and arrays of ints are compared by == and !=. -/
import Derived.Test.YtpocjmlkhophoaaGreatDoorBase
import Derived.Laws.StructEq
namespace Go.Proofs.YtpocjmlkhophoaaGreatDoor
open Go.RowKit Go.Extern.Stop Go.Stop Go.Extern

theorem part_int (cs : Array Value) (o : Nat) (u : Value) (h : cs[o]? = some u) (w : World) : (part 3 cs o).run Tryz.prog w = .ok u w := by
  have hlt := (Array.getElem?_eq_some_iff.1 h).1
  simp [part, h]
set_option maxRecDepth 100000 in
theorem neq_poll (a0 a1 a2 a3 a4 b0 b1 b2 b3 b4 : Int) (w : World) : (binOp .neq 68 (.agg #[.int .i64 a0, .int .i64 a1, .int .i64 a2, .int .i64 a3, .int .i64 a4]) (.agg #[.int .i64 b0, .int .i64 b1, .int .i64 b2, .int .i64 b3, .int .i64 b4])).run Tryz.prog w = .ok (.bool (!(a0 == b0 && (a1 == b1 && (a2 == b2 && (a3 == b3 && a4 == b4)))))) w := by
  rw [run_neq_struct, show (10000 : Nat) = 9999 + 1 from rfl, run_equalIn_struct w 9999 68 _ _ Tryz.underlying68 (by kernel_rfl)]
  have hf : Tryz.prog.fieldsOf 68 = #[{ name := "Slave", type := 3, offset := 0, embedded := false, tag := "", pkgPath := "", byteOffset := 0 }, { name := "Func", type := 3, offset := 1, embedded := false, tag := "", pkgPath := "", byteOffset := 8 }, { name := "Start", type := 3, offset := 2, embedded := false, tag := "", pkgPath := "", byteOffset := 16 }, { name := "Count", type := 3, offset := 3, embedded := false, tag := "", pkgPath := "", byteOffset := 24 }, { name := "Every", type := 3, offset := 4, embedded := false, tag := "", pkgPath := "", byteOffset := 32 }] := by kernel_rfl
  rw [hf, show (9999 : Nat) = 9998 + 1 from rfl]
  simp [Op.eqFields, run_equalIn_int _ 9998 3 .i64 .i64 _ _ Tryz.underlying3, go_sem]
  by_cases h0 : a0 = b0
  case neg => simp [h0]
  simp only [h0, if_true, beq_self_eq_true, Bool.not_true, Bool.false_or]
  by_cases h1 : a1 = b1
  case neg => simp [h1]
  simp only [h1, if_true, beq_self_eq_true, Bool.not_true, Bool.false_or]
  by_cases h2 : a2 = b2
  case neg => simp [h2]
  simp only [h2, if_true, beq_self_eq_true, Bool.not_true, Bool.false_or]
  by_cases h3 : a3 = b3
  case neg => simp [h3]
  simp only [h3, if_true, beq_self_eq_true, Bool.not_true, Bool.false_or]
  by_cases h4 : a4 = b4 <;> simp [h4]
set_option maxRecDepth 100000 in
theorem neq_point (a0 a1 a2 a3 a4 a5 a6 a7 b0 b1 b2 b3 b4 b5 b6 b7 : Int) (w : World) : (binOp .neq 62 (.agg #[.int .i64 a0, .int .i64 a1, .int .i64 a2, .int .i64 a3, .int .i64 a4, .int .i64 a5, .int .i64 a6, .int .i64 a7]) (.agg #[.int .i64 b0, .int .i64 b1, .int .i64 b2, .int .i64 b3, .int .i64 b4, .int .i64 b5, .int .i64 b6, .int .i64 b7])).run Tryz.prog w = .ok (.bool (!(a0 == b0 && (a1 == b1 && (a2 == b2 && (a3 == b3 && (a4 == b4 && (a5 == b5 && (a6 == b6 && a7 == b7))))))))) w := by
  rw [run_neq_struct, show (10000 : Nat) = 9999 + 1 from rfl, run_equalIn_struct w 9999 62 _ _ Tryz.underlying62 (by kernel_rfl)]
  have hf : Tryz.prog.fieldsOf 62 = #[{ name := "Kind", type := 3, offset := 0, embedded := false, tag := "", pkgPath := "", byteOffset := 0 }, { name := "Poll", type := 3, offset := 1, embedded := false, tag := "", pkgPath := "", byteOffset := 8 }, { name := "Place", type := 3, offset := 2, embedded := false, tag := "", pkgPath := "", byteOffset := 16 }, { name := "Class", type := 3, offset := 3, embedded := false, tag := "", pkgPath := "", byteOffset := 24 }, { name := "Dead", type := 3, offset := 4, embedded := false, tag := "", pkgPath := "", byteOffset := 32 }, { name := "Num", type := 3, offset := 5, embedded := false, tag := "", pkgPath := "", byteOffset := 40 }, { name := "Den", type := 3, offset := 6, embedded := false, tag := "", pkgPath := "", byteOffset := 48 }, { name := "Off", type := 3, offset := 7, embedded := false, tag := "", pkgPath := "", byteOffset := 56 }] := by kernel_rfl
  rw [hf, show (9999 : Nat) = 9998 + 1 from rfl]
  simp [Op.eqFields, run_equalIn_int _ 9998 3 .i64 .i64 _ _ Tryz.underlying3, go_sem]
  by_cases h0 : a0 = b0
  case neg => simp [h0]
  simp only [h0, if_true, beq_self_eq_true, Bool.not_true, Bool.false_or]
  by_cases h1 : a1 = b1
  case neg => simp [h1]
  simp only [h1, if_true, beq_self_eq_true, Bool.not_true, Bool.false_or]
  by_cases h2 : a2 = b2
  case neg => simp [h2]
  simp only [h2, if_true, beq_self_eq_true, Bool.not_true, Bool.false_or]
  by_cases h3 : a3 = b3
  case neg => simp [h3]
  simp only [h3, if_true, beq_self_eq_true, Bool.not_true, Bool.false_or]
  by_cases h4 : a4 = b4
  case neg => simp [h4]
  simp only [h4, if_true, beq_self_eq_true, Bool.not_true, Bool.false_or]
  by_cases h5 : a5 = b5
  case neg => simp [h5]
  simp only [h5, if_true, beq_self_eq_true, Bool.not_true, Bool.false_or]
  by_cases h6 : a6 = b6
  case neg => simp [h6]
  simp only [h6, if_true, beq_self_eq_true, Bool.not_true, Bool.false_or]
  by_cases h7 : a7 = b7 <;> simp [h7]
set_option maxRecDepth 100000 in
theorem neq_ctl (a0 a1 a2 b0 b1 b2 : Int) (w : World) : (binOp .neq 70 (.agg #[.int .i64 a0, .int .i64 a1, .int .i64 a2]) (.agg #[.int .i64 b0, .int .i64 b1, .int .i64 b2])).run Tryz.prog w = .ok (.bool (!(a0 == b0 && (a1 == b1 && a2 == b2)))) w := by
  rw [run_neq_struct, show (10000 : Nat) = 9999 + 1 from rfl, run_equalIn_struct w 9999 70 _ _ Tryz.underlying70 (by kernel_rfl)]
  have hf : Tryz.prog.fieldsOf 70 = #[{ name := "Kind", type := 3, offset := 0, embedded := false, tag := "", pkgPath := "", byteOffset := 0 }, { name := "Slave", type := 3, offset := 1, embedded := false, tag := "", pkgPath := "", byteOffset := 8 }, { name := "Reg", type := 3, offset := 2, embedded := false, tag := "", pkgPath := "", byteOffset := 16 }] := by kernel_rfl
  rw [hf, show (9999 : Nat) = 9998 + 1 from rfl]
  simp [Op.eqFields, run_equalIn_int _ 9998 3 .i64 .i64 _ _ Tryz.underlying3, go_sem]
  by_cases h0 : a0 = b0
  case neg => simp [h0]
  simp only [h0, if_true, beq_self_eq_true, Bool.not_true, Bool.false_or]
  by_cases h1 : a1 = b1
  case neg => simp [h1]
  simp only [h1, if_true, beq_self_eq_true, Bool.not_true, Bool.false_or]
  by_cases h2 : a2 = b2 <;> simp [h2]
theorem forIn_range_3 {β : Type} (b : β) (f : Nat → β → Sem (ForInStep β)) : (forIn [:3] b f : Sem β) = forIn [0, 1, 2] b f := by
  rw [Std.Legacy.Range.forIn_eq_forIn_range']
  rfl
theorem forIn_range_9 {β : Type} (b : β) (f : Nat → β → Sem (ForInStep β)) : (forIn [:9] b f : Sem β) = forIn [0, 1, 2, 3, 4, 5, 6, 7, 8] b f := by
  rw [Std.Legacy.Range.forIn_eq_forIn_range']
  rfl
set_option maxRecDepth 100000 in
theorem arr_room (d : Nat) (a0 a1 a2 b0 b1 b2 : Int) (w : World) : (Op.equalIn (d + 1 + 1) 22 (.agg #[.int .i64 a0, .int .i64 a1, .int .i64 a2]) (.agg #[.int .i64 b0, .int .i64 b1, .int .i64 b2])).run Tryz.prog w = .ok (a0 == b0 && (a1 == b1 && a2 == b2)) w := by
  rw [Op.equalIn]
  simp only [Sem.run_bind, run_underlying Tryz.underlying22, Result.andThen_ok]
  have hs : (sizeOf 3).run Tryz.prog w = .ok 1 w := by kernel_rfl
  rw [hs]
  simp only [Result.andThen_ok, forIn_range_3]
  simp [run_equalIn_int _ d 3 .i64 .i64 _ _ Tryz.underlying3, go_sem]
  by_cases h0 : a0 = b0
  case neg => simp [h0]
  simp only [h0, if_true, beq_self_eq_true, Bool.true_and]
  by_cases h1 : a1 = b1
  case neg => simp [h1]
  simp only [h1, if_true, beq_self_eq_true, Bool.true_and]
  by_cases h2 : a2 = b2 <;> simp [h2]
theorem eql_room (a0 a1 a2 b0 b1 b2 : Int) (w : World) : (binOp .eql 22 (.agg #[.int .i64 a0, .int .i64 a1, .int .i64 a2]) (.agg #[.int .i64 b0, .int .i64 b1, .int .i64 b2])).run Tryz.prog w = .ok (.bool ((a0 == b0 && (a1 == b1 && a2 == b2)))) w := by
  rw [run_eql_struct, show (10000 : Nat) = 9998 + 1 + 1 from rfl, arr_room]
  rfl
theorem neq_room (a0 a1 a2 b0 b1 b2 : Int) (w : World) : (binOp .neq 22 (.agg #[.int .i64 a0, .int .i64 a1, .int .i64 a2]) (.agg #[.int .i64 b0, .int .i64 b1, .int .i64 b2])).run Tryz.prog w = .ok (.bool (!(a0 == b0 && (a1 == b1 && a2 == b2)))) w := by
  rw [run_neq_struct, show (10000 : Nat) = 9998 + 1 + 1 from rfl, arr_room]
  rfl
set_option maxRecDepth 100000 in
theorem arr_nums (d : Nat) (a0 a1 a2 a3 a4 a5 a6 a7 a8 b0 b1 b2 b3 b4 b5 b6 b7 b8 : Int) (w : World) : (Op.equalIn (d + 1 + 1) 118 (.agg #[.int .i64 a0, .int .i64 a1, .int .i64 a2, .int .i64 a3, .int .i64 a4, .int .i64 a5, .int .i64 a6, .int .i64 a7, .int .i64 a8]) (.agg #[.int .i64 b0, .int .i64 b1, .int .i64 b2, .int .i64 b3, .int .i64 b4, .int .i64 b5, .int .i64 b6, .int .i64 b7, .int .i64 b8])).run Tryz.prog w = .ok (a0 == b0 && (a1 == b1 && (a2 == b2 && (a3 == b3 && (a4 == b4 && (a5 == b5 && (a6 == b6 && (a7 == b7 && a8 == b8)))))))) w := by
  rw [Op.equalIn]
  simp only [Sem.run_bind, run_underlying Tryz.underlying118, Result.andThen_ok]
  have hs : (sizeOf 3).run Tryz.prog w = .ok 1 w := by kernel_rfl
  rw [hs]
  simp only [Result.andThen_ok, forIn_range_9]
  simp [run_equalIn_int _ d 3 .i64 .i64 _ _ Tryz.underlying3, go_sem]
  by_cases h0 : a0 = b0
  case neg => simp [h0]
  simp only [h0, if_true, beq_self_eq_true, Bool.true_and]
  by_cases h1 : a1 = b1
  case neg => simp [h1]
  simp only [h1, if_true, beq_self_eq_true, Bool.true_and]
  by_cases h2 : a2 = b2
  case neg => simp [h2]
  simp only [h2, if_true, beq_self_eq_true, Bool.true_and]
  by_cases h3 : a3 = b3
  case neg => simp [h3]
  simp only [h3, if_true, beq_self_eq_true, Bool.true_and]
  by_cases h4 : a4 = b4
  case neg => simp [h4]
  simp only [h4, if_true, beq_self_eq_true, Bool.true_and]
  by_cases h5 : a5 = b5
  case neg => simp [h5]
  simp only [h5, if_true, beq_self_eq_true, Bool.true_and]
  by_cases h6 : a6 = b6
  case neg => simp [h6]
  simp only [h6, if_true, beq_self_eq_true, Bool.true_and]
  by_cases h7 : a7 = b7
  case neg => simp [h7]
  simp only [h7, if_true, beq_self_eq_true, Bool.true_and]
  by_cases h8 : a8 = b8 <;> simp [h8]
theorem eql_nums (a0 a1 a2 a3 a4 a5 a6 a7 a8 b0 b1 b2 b3 b4 b5 b6 b7 b8 : Int) (w : World) : (binOp .eql 118 (.agg #[.int .i64 a0, .int .i64 a1, .int .i64 a2, .int .i64 a3, .int .i64 a4, .int .i64 a5, .int .i64 a6, .int .i64 a7, .int .i64 a8]) (.agg #[.int .i64 b0, .int .i64 b1, .int .i64 b2, .int .i64 b3, .int .i64 b4, .int .i64 b5, .int .i64 b6, .int .i64 b7, .int .i64 b8])).run Tryz.prog w = .ok (.bool ((a0 == b0 && (a1 == b1 && (a2 == b2 && (a3 == b3 && (a4 == b4 && (a5 == b5 && (a6 == b6 && (a7 == b7 && a8 == b8)))))))))) w := by
  rw [run_eql_struct, show (10000 : Nat) = 9998 + 1 + 1 from rfl, arr_nums]
  rfl
end Go.Proofs.YtpocjmlkhophoaaGreatDoor
