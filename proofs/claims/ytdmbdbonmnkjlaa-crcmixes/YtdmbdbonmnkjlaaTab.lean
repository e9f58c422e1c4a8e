/- crc.Table: a new row of 256 numbers, row i the step of byte i; all older memory stands. -/
import Derived.Test.YtdmbdbonmnkjlaaRun
import Derived.Deep.OwnRows
namespace Go.Proofs.Ytdmbdbonmnkjlaa
open Go.RowKit

theorem info3 : (Try.prog.info? 3).map (fun i => (i.zero, i.size, i.bytes)) = some (some (.int .i64 0), 1, 8) := by kernel_rfl

/-- What a table is. -/
def TabAt (w : World) (b : Nat) (p : Int) : Prop := w.rowIs b 3 256 (fun i => .int .i64 ((stepN (lo p) 0 i : Nat) : Int))
/-- .. the first k rows of it. -/
def TabTo (w : World) (b : Nat) (p : Int) (k : Nat) : Prop := w.rowIs b 3 256 (fun i => .int .i64 (if i < k then ((stepN (lo p) 0 i : Nat) : Int) else 0))

theorem tabTo_step {w : World} {b : Nat} {p : Int} {k : Nat} (h : TabTo w b p k) (_hk : k < 256) : TabTo (w.setCell ⟨b, k, none⟩ (.int .i64 ((stepN (lo p) 0 k : Nat) : Int))) b p (k + 1) := by
  refine World.rowIs.congr (World.rowIs.set h k _) ?_
  intro i hi
  by_cases e : i = k
  · subst e
    simp
  · simp [e, show i < k + 1 ↔ i < k by omega]
set_option maxRecDepth 100000 in
set_option maxHeartbeats 1000000 in
theorem Table_any (p : Int) (w : World) : Calls Try.prog 18 #[.int .i64 p] w fun e w' => e = .returned (.slice (some ⟨w.heap.size, 0, none⟩) 256 256) ∧ TabAt w' w.heap.size p ∧ Below w.heap.size w w' := by
  obtain ⟨O, hO⟩ : ∃ O, O = Obj.cells (madeCells #[.int .i64 0] 256) 3 (0, 0) := ⟨_, rfl⟩
  have hmk : ∀ w : World, (Instr.makeSlice 28 (.int .i64 256) (.int .i64 256)).run Try.prog w = .ok (.slice (some ⟨w.heap.size, 0, none⟩) 256 256) (w.alloc O) := fun w => by
    rw [hO]
    exact run_make_row' (P := Try.prog) 28 3 (.int .i64 0) 8 Try.underlying28 info3 rfl .i64 .i64 256 (by omega) (by omega) w
  have HI : Hid (TabTo (w.alloc O) w.heap.size p 0 ∧ Below w.heap.size w (w.alloc O)) := Lib.hid ⟨by rw [hO]; exact (World.rowIs_made w (.int .i64 0) 256 3).congr (fun i _ => by simp), (Below.refl _ w).alloc (Nat.le_refl _) _⟩
  clear hO
  go_enter Try.func18, Try.ntmps18
  go_wp2
  go_loopg [8] 256 (fun k s8 wr => ∃ i : Nat, i ≤ 256 ∧ k = 256 - i ∧ s8 = .int .i64 i ∧ Hid (TabTo wr w.heap.size p i ∧ Below w.heap.size w wr))
  case atStart => exact ⟨0, Nat.zero_le _, rfl, rfl, HI⟩
  case round =>
    obtain ⟨i, hi, rfl, rfl, hinv⟩ := hrel
    by_cases h : i < 256
    · have hcell := hinv.out.1.cell h
      have hfr := World.rowIs.frozen hinv.out.1 i
      have hwr : IntKind.u8.wrap (i : Int) = (i : Int) := by rw [IntKind.wrap_u8']; omega
      have H2 : Hid (TabTo (wr.setCell ⟨w.heap.size, i, none⟩ (.int .i64 ((stepN (lo p) (lo 0) i : Nat) : Int))) w.heap.size p (i + 1) ∧ Below w.heap.size w (wr.setCell ⟨w.heap.size, i, none⟩ (.int .i64 ((stepN (lo p) (lo 0) i : Nat) : Int)))) := Lib.hid ⟨tabTo_step hinv.out.1 h, hinv.out.2.setCell (Nat.le_refl _) _⟩
      go_wp2_with fail
      refine (Step_any p 0 i wr h).mono ?_
      rintro e w' ⟨rfl, rfl⟩
      go_wp2
      go_roundg (256 - (i + 1))
      case measure => omega
      case rel => exact ⟨i + 1, by omega, rfl, by go_num, H2⟩
    · have he : Hid (TabAt wr w.heap.size p ∧ Below w.heap.size w wr) := Lib.hid ⟨hinv.out.1.congr (fun j hj => by rw [if_pos (by omega)]), hinv.out.2⟩
      go_wp2
      go_ret
      exact ⟨rfl, he.out⟩

/-- a row of a table, as the walk reads it. -/
theorem TabAt.cell {w : World} {b : Nat} {p : Int} (h : TabAt w b p) {i : Nat} (hi : i < 256) : w.cell? ⟨b, i, none⟩ = some (.int .i64 ((stepN (lo p) 0 i : Nat) : Int)) := World.rowIs.cell h hi
theorem TabAt.on {w w' : World} {b : Nat} {p : Int} (h : TabAt w b p) (hb : Below w.heap.size w w') : TabAt w' b p := h.of_block (hb.block b h.lt)
end Go.Proofs.Ytdmbdbonmnkjlaa
