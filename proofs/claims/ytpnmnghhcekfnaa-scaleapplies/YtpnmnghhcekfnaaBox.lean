/- A point in memory: its eight cells, wherever newer memory was made. -/
import Derived.Test.YtpnmnghhcekfnaaPure
namespace Go.Proofs.Ytpnmnghhcekfnaa
open Go.RowKit

/-- the eight cells of a point that was boxed at g. -/
def PtAt (w : World) (g : Nat) (k q l c d n e o : Int) : Prop := w.cell? ⟨g, 0, none⟩ = some (.int .i64 k) ∧ w.cell? ⟨g, 1, none⟩ = some (.int .i64 q) ∧ w.cell? ⟨g, 2, none⟩ = some (.int .i64 l) ∧ w.cell? ⟨g, 3, none⟩ = some (.int .i64 c) ∧ w.cell? ⟨g, 4, none⟩ = some (.int .i64 d) ∧ w.cell? ⟨g, 5, none⟩ = some (.int .i64 n) ∧ w.cell? ⟨g, 6, none⟩ = some (.int .i64 e) ∧ w.cell? ⟨g, 7, none⟩ = some (.int .i64 o)
theorem pt_box {w w1 : World} {k q l c d n e o : Int} (hb : Below (w.alloc (.cells #[.int .i64 k, .int .i64 q, .int .i64 l, .int .i64 c, .int .i64 d, .int .i64 n, .int .i64 e, .int .i64 o] 23)).heap.size (w.alloc (.cells #[.int .i64 k, .int .i64 q, .int .i64 l, .int .i64 c, .int .i64 d, .int .i64 n, .int .i64 e, .int .i64 o] 23)) w1) : PtAt w1 w.heap.size k q l c d n e o :=
  ⟨box_cell hb 0 _ rfl, box_cell hb 1 _ rfl, box_cell hb 2 _ rfl, box_cell hb 3 _ rfl, box_cell hb 4 _ rfl, box_cell hb 5 _ rfl, box_cell hb 6 _ rfl, box_cell hb 7 _ rfl⟩
theorem below_of {w : World} {o : Obj} {w1 : World} (hb : Below (w.alloc o).heap.size (w.alloc o) w1) : Below w.heap.size w w1 := (below_box w o).trans (hb.mono (below_box w o).size)
end Go.Proofs.Ytpnmnghhcekfnaa
