/- A configuration that is read whole out of its box, in one step. -/
import Derived.Test.YtpocjmlkhophoaaGreatDoorCopyD
import Derived.Test.YtpocjmlkhophoaaGreatDoorSam
namespace Go.Proofs.YtpocjmlkhophoaaGreatDoor
open Go.RowKit Go.Extern.Stop Go.Stop Go.Extern

theorem ld28 {w : World} {ops : Array Oper} {rest : List Oper} {o : Oper} {a : Act} {Q : Exit → Act → World → Prop} (hw : Region.wanted o (yielded ops a.tmps) = true) (x : Operand) (ho : o.op = .load 28 x) (g : Nat) (hx : a.eval x = .pointer (some ⟨g, 0, none⟩)) (c : Cfg) (sl po pt ct : Value) (hb : CfgBox w g c sl po pt ct)
    (h : wpList Tryz.prog ops Q rest (a.put o.dst (cfgV c sl po pt ct)) w) : wpList Tryz.prog ops Q (o :: rest) a w := by
  refine BigFrame.wpList_want hw fun K hK => ?_
  unfold Oper.wp execOp
  simp only [ho, hx, Instr.loadAt, Instr.sureAddr, Sem.run_bind, Sem.run_pure, Result.andThen_ok, run_loadVar_row w g 28 28 _ (0, 0) _ hb Tryz.underlying28 rfl (by kernel_rfl)]
  exact hK _ _ h
/-- .. in a region that draws its order, under a fact on the box. -/
theorem yl28 {ops : Array Oper} {S : World → Prop} {op : Oper} {a : Act} (hw : Region.wanted op (yielded ops a.tmps) = true) (x : Operand) (ho : op.op = .load 28 x) (g : Nat) (hx : a.eval x = .pointer (some ⟨g, 0, none⟩)) (c : Cfg) (sl po pt ct : Value) (hS : ∀ w, S w → CfgBox w g c sl po pt ct) : YieldsIf Tryz.prog ops S op (cfgV c sl po pt ct) a :=
  .inl ⟨hw, fun w hw' => by
    unfold execOp
    simp only [ho, hx, Instr.loadAt, Instr.sureAddr, Sem.run_bind, Sem.run_pure, Result.andThen_ok, run_loadVar_row w g 28 28 _ (0, 0) _ (hS w hw') Tryz.underlying28 rfl (by kernel_rfl)]
    rfl⟩
theorem cfg_one (c : Cfg) (a1 a2 a3 a4 : Option Addr) (n1 n2 n3 n4 q1 q2 q3 q4 : Nat) : (#[.int .i64 c.own, .int .i64 c.master, .bool c.unsol, .int .i64 c.reply, .int .i64 c.silence, .int .i64 c.retries, .int .i64 c.offline, .int .i64 c.select, .int .i64 c.confirm, .int .i64 c.frag, .int .i64 c.r0, .int .i64 c.r1, .int .i64 c.r2, .slice a1 n1 q1, .slice a2 n2 q2, .slice a3 n3 q3, .slice a4 n4 q4] : Array Value).all (·.oneCell') = true := by simp [Value.oneCell']
end Go.Proofs.YtpocjmlkhophoaaGreatDoor
/- What else stands when a row of one's own grows; a third box beside two. -/
namespace Go.Proofs.YtpocjmlkhophoaaGreatDoor
open Go.RowKit Go.Extern.Stop Go.Stop Go.Extern

theorem rows_apart {w : World} {B B2 : Nat} {e e2 k k2 n n2 : Nat} {v v2 : Value} {cs cs2 : List Value} (h : w.ownsRow B e k v n cs) (h2 : w.ownsRow B2 e2 k2 v2 n2 cs2) (hne : e2 ≠ e) (i : Nat) (h1 : v2.ownBlock = some i) : v.ownBlock ≠ some i := by
  rcases h2.2 with ⟨rfl, _⟩ | ⟨g, cap, cur, rfl, _, hh, _⟩
  · cases h1
  · have : g = i := by simpa [Value.ownBlock] using h1
    subst this
    exact row_apart h hh hne
theorem GrownIs.row2 {W w' : World} {B B2 e e2 k k2 n n0 n2 : Nat} {xo v' v2 : Value} {cs cs0 cs2 : List Value} (h : GrownIs W B e k xo n cs v' w') (h0 : W.ownsRow B e k xo n0 cs0) (h2 : W.ownsRow B2 e2 k2 v2 n2 cs2) (hne : e2 ≠ e) : w'.ownsRow B2 e2 k2 v2 n2 cs2 :=
  ownsRow_off h2 h.2.1 (fun i hi hs => rows_apart h0 h2 hne i hi hs)
theorem GrownIs.box {W w' : World} {B e k n n0 : Nat} {xo v' : Value} {cs cs0 : List Value} (h : GrownIs W B e k xo n cs v' w') (h0 : W.ownsRow B e k xo n0 cs0) {r : Nat} {us : Array Value} {t : Nat} (hr : W.heap[r]? = some (.cells us t (0, 0))) (ht : t ≠ e) : w'.heap[r]? = some (.cells us t (0, 0)) :=
  (h.2.1.block r (lt_heap hr) (row_apart h0 hr ht)).trans hr
/-- a store into a third box. -/
theorem box_set {w : World} {r o k : Nat} {u : Value} {us : Array Value} {t : Nat} (hr : w.heap[r]? = some (.cells us t (0, 0))) (hne : r ≠ k) : (w.setCell ⟨k, o, none⟩ u).heap[r]? = some (.cells us t (0, 0)) := by
  rw [Below.heap_setCell w ⟨k, o, none⟩ u r (by simpa using hne)]
  exact hr
/-- Two configurations' boxes and lists as they came, and a third one with lists of the call's own. -/
structure ThreeIn (w : World) (B g h k : Nat) (c d x : Cfg) (sl po pt ct sl2 po2 pt2 ct2 v1 v2 v3 v4 : Value) (wr : World) : Prop where
  two : TwoIn w g h c d sl po pt ct sl2 po2 pt2 ct2 wr
  b3 : CfgBox wr k x v1 v2 v3 v4
  l3 : ListsAt wr x v1 v2 v3 v4
theorem ThreeIn.on {w : World} {B g h k : Nat} {c d x : Cfg} {sl po pt ct sl2 po2 pt2 ct2 v1 v2 v3 v4 : Value} {wr w' : World} (h' : ThreeIn w B g h k c d x sl po pt ct sl2 po2 pt2 ct2 v1 v2 v3 v4 wr) (hb : Below wr.heap.size wr w') : ThreeIn w B g h k c d x sl po pt ct sl2 po2 pt2 ct2 v1 v2 v3 v4 w' := ⟨h'.two.on hb, h'.b3.on hb, h'.l3.on hb⟩
theorem below_two {B C : Nat} {W W1 w5 : World} (h3 : B ≤ C) (hW : C ≤ W.heap.size) (h1 : Below W.heap.size W W1) (h2 : Below C W1 w5) : Below B W w5 := ((h1.mono hW).trans h2).mono h3
theorem wrap_ne {a m : Int} (hm : I64 m) (h0 : m ≠ 0) : wrap64 (a + m) ≠ a := by
  unfold I64 at hm
  unfold wrap64
  omega
end Go.Proofs.YtpocjmlkhophoaaGreatDoor
