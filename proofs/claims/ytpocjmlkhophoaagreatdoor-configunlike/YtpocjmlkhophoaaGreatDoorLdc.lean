/- A configuration that is read whole out of its box, in one step. -/
import Derived.Test.YtpocjmlkhophoaaGreatDoorCopyD
namespace Go.Proofs.YtpocjmlkhophoaaGreatDoor
open Go.RowKit Go.Extern.Stop Go.Stop Go.Extern

theorem ld28 {w : World} {ops : Array Oper} {rest : List Oper} {o : Oper} {a : Act} {Q : Exit → Act → World → Prop} (hw : Region.wanted o (yielded ops a.tmps) = true) (x : Operand) (ho : o.op = .load 28 x) (g : Nat) (hx : a.eval x = .pointer (some ⟨g, 0, none⟩)) (c : Cfg) (sl po pt ct : Value) (hb : CfgBox w g c sl po pt ct)
    (h : wpList Tryz.prog ops Q rest (a.put o.dst (cfgV c sl po pt ct)) w) : wpList Tryz.prog ops Q (o :: rest) a w := by
  refine BigFrame.wpList_want hw fun K hK => ?_
  unfold Oper.wp execOp
  simp only [ho, hx, Instr.loadAt, Instr.sureAddr, Sem.run_bind, Sem.run_pure, Result.andThen_ok, run_loadVar_row w g 28 28 _ (0, 0) _ hb Tryz.underlying28 rfl (by kernel_rfl)]
  exact hK _ _ h
/-- .. in a region that draws its order, under a fact on the box. -/
theorem yl28 {ops : Array Oper} {S : World → Prop} {op : Oper} {a : Act} (hw : Region.wanted op (yielded ops a.tmps) = true) (x : Operand) (ho : op.op = .load 28 x) (g : Nat) (hx : a.eval x = .pointer (some ⟨g, 0, none⟩)) (c : Cfg) (sl po pt ct : Value) (hS : ∀ w, S w → CfgBox w g c sl po pt ct) : YieldsIf Tryz.prog ops S op (cfgV c sl po pt ct) a :=
  .inl ⟨hw, fun w hw' => by
    unfold execOp
    simp only [ho, hx, Instr.loadAt, Instr.sureAddr, Sem.run_bind, Sem.run_pure, Result.andThen_ok, run_loadVar_row w g 28 28 _ (0, 0) _ (hS w hw') Tryz.underlying28 rfl (by kernel_rfl)]
    rfl⟩
theorem cfg_one (c : Cfg) (a1 a2 a3 a4 : Option Addr) (n1 n2 n3 n4 q1 q2 q3 q4 : Nat) : (#[.int .i64 c.own, .int .i64 c.master, .bool c.unsol, .int .i64 c.reply, .int .i64 c.silence, .int .i64 c.retries, .int .i64 c.offline, .int .i64 c.select, .int .i64 c.confirm, .int .i64 c.frag, .int .i64 c.r0, .int .i64 c.r1, .int .i64 c.r2, .slice a1 n1 q1, .slice a2 n2 q2, .slice a3 n3 q3, .slice a4 n4 q4] : Array Value).all (·.oneCell') = true := by simp [Value.oneCell']
end Go.Proofs.YtpocjmlkhophoaaGreatDoor
