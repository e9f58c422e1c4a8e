/- fail.Of and fail.Is of an error that In has wrapped however often: what they answer; all older memory stands. -/
import Derived.Test.YtpocjmlkhophoaaGreatDoorNear
namespace Go.Proofs.YtpocjmlkhophoaaGreatDoor
open Go.RowKit Go.Extern.Stop Go.Stop Go.Extern

theorem three_below (w : World) (a b c : Obj) : Below w.heap.size w (((w.alloc a).alloc b).alloc c) := two_below w a b c
theorem two_belowW (w : World) (a b : Obj) : Below w.heap.size w ((w.alloc a).alloc b) :=
  ((Below.refl w.heap.size w).alloc (Nat.le_refl _) _).alloc (by simp) _

/-- the closure of fail.Of, at an error with a code. -/
theorem of_in_code (l : List (ByteArray × Int)) (v : Value) (c : Int) (w : World) (hg : ErrT w) (hch : Chain w (.iface 32 (.int .i64 c)) l v) :
    Calls Tryz.prog 84 #[.pointer (some ⟨w.heap.size, 0, none⟩), .pointer (some ⟨w.heap.size + 1, 0, none⟩)] ((w.alloc (.cells #[v] 39)).alloc (.cells #[.int .i64 10] 32)) fun e w' => e = .returned (.tuple #[]) ∧ (Below w.heap.size w w' ∧ w'.cell? ⟨w.heap.size + 1, 0, none⟩ = some (.int .i64 c)) := by
  obtain ⟨te, ye, rfl⟩ := hch.iface
  have HG := Lib.hid hg
  have HC := Lib.hid hch
  clear hg hch
  go_enter Tryz.func84, Tryz.ntmps84
  go_wp2_with fail
  refine (as_code l _ c ⟨w.heap.size + 1 + 1, 0, none⟩ (.int .i64 0) _ (((HG.out.alloc _).alloc _).alloc _) (HC.out.on (three_below _ _ _ _)) (three_cell _ _ _ _ _) (three_frozen _ _ _ _ _)).mono ?_
  rintro e w' ⟨rfl, hb, hc⟩
  have h1 : w'.cell? ⟨w.heap.size + 1, 0, none⟩ = some (.int .i64 10) := (hb.cell (p := ⟨w.heap.size + 1, 0, none⟩) (Nat.lt_succ_self _)).trans (two_cell _ _ _ _ _ _)
  have f1 : w'.frozen? ⟨w.heap.size + 1, 0, none⟩ = false := (hb.frozen (p := ⟨w.heap.size + 1, 0, none⟩) (Nat.lt_succ_self _)).trans (two_frozen _ _ _ _ _ _)
  have HB : Hid (Below w.heap.size w w') := Lib.hid ((two_below w _ _ _).trans (hb.mono (show w.heap.size ≤ w.heap.size + 1 + 1 by omega)))
  clear hb
  go_wp2
  go_end0
  exact ⟨rfl, HB.out.setCell (by simp) _, World.cell?_setCell_same _ _ _ h1⟩

/-- the closure of fail.Of, out of an errors.As that finds nothing. -/
theorem of_in_none (te : TypeId) (ye : Value) (w : World)
    (H : Hid (∀ (w' : World) (t : Addr), Below w.heap.size w w' → Calls Tryz.prog 85 #[.iface te ye, .iface 125 (.pointer (some t))] w' fun e w'' => e = .returned (.bool false) ∧ Below w'.heap.size w' w'')) :
    Calls Tryz.prog 84 #[.pointer (some ⟨w.heap.size, 0, none⟩), .pointer (some ⟨w.heap.size + 1, 0, none⟩)] ((w.alloc (.cells #[.iface te ye] 39)).alloc (.cells #[.int .i64 10] 32)) fun e w' => e = .returned (.tuple #[]) ∧ (Below w.heap.size w w' ∧ w'.cell? ⟨w.heap.size + 1, 0, none⟩ = some (.int .i64 10)) := by
  go_enter Tryz.func84, Tryz.ntmps84
  go_wp2_with fail
  refine (H.out _ ⟨w.heap.size + 1 + 1, 0, none⟩ (three_below _ _ _ _)).mono ?_
  rintro e w' ⟨rfl, hb⟩
  rw [size3] at hb
  have HB : Hid (Below w.heap.size w w' ∧ w'.cell? ⟨w.heap.size + 1, 0, none⟩ = some (.int .i64 10)) := Lib.hid ⟨(two_below w _ _ _).trans (hb.mono (by omega)), (hb.cell (p := ⟨w.heap.size + 1, 0, none⟩) (show w.heap.size + 1 < w.heap.size + 1 + 1 + 1 by omega)).trans (two_cell _ _ _ _ _ _)⟩
  clear hb
  go_wp2
  go_end0
  exact ⟨rfl, HB.out⟩

/-- fail.Of, out of its closure. -/
theorem of_through (tv : TypeId) (xv : Value) (c : Int) (w : World)
    (H : Hid (Calls Tryz.prog 84 #[.pointer (some ⟨w.heap.size, 0, none⟩), .pointer (some ⟨w.heap.size + 1, 0, none⟩)] ((w.alloc (.cells #[.iface tv xv] 39)).alloc (.cells #[.int .i64 10] 32)) fun e w' => e = .returned (.tuple #[]) ∧ (Below w.heap.size w w' ∧ w'.cell? ⟨w.heap.size + 1, 0, none⟩ = some (.int .i64 c)))) :
    Calls Tryz.prog 33 #[.iface tv xv] w fun e w' => e = .returned (.int .i64 c) ∧ Below w.heap.size w w' := by
  have hmf : ∀ (fn : Fn) (first cap : Array Value) (w : World), (Instr.makeFunc fn first cap).run Tryz.prog w = .ok (.func fn first cap) w := fun _ _ _ _ => rfl
  go_enter Tryz.func33, Tryz.ntmps33
  go_wp2_with fail
  refine (guard_any 84 _ _ _ (cf39 _) H).mono ?_
  rintro e w' ⟨rfl, hb, hc⟩
  have HB := Lib.hid hb
  clear hb
  go_wp2
  go_ret
  exact ⟨rfl, HB.out⟩

theorem of_nil (w : World) : Calls Tryz.prog 33 #[.nilIface] w fun e w' => e = .returned (.int .i64 0) ∧ Below w.heap.size w w' := by
  go_enter Tryz.func33, Tryz.ntmps33
  go_wp2
  go_ret
  exact ⟨rfl, (Below.refl _ _).alloc (Nat.le_refl _) _⟩

/-- fail.Of: the code that was wrapped. -/
theorem of_code (l : List (ByteArray × Int)) (v : Value) (c : Int) (w : World) (hg : ErrT w) (hch : Chain w (.iface 32 (.int .i64 c)) l v) :
    Calls Tryz.prog 33 #[v] w fun e w' => e = .returned (.int .i64 c) ∧ Below w.heap.size w w' := by
  obtain ⟨te, ye, rfl⟩ := hch.iface
  exact of_through te ye c w (Lib.hid (of_in_code l _ c w hg hch))
/-- fail.Of of a Fail without an error: ErrOther. -/
theorem of_empty (b : Nat) (w : World) (hg : ErrT w) (h2 : w.cell? ⟨b, 2, none⟩ = some .nilIface) :
    Calls Tryz.prog 33 #[.iface 145 (.pointer (some ⟨b, 0, none⟩))] w fun e w' => e = .returned (.int .i64 10) ∧ Below w.heap.size w w' :=
  of_through 145 _ 10 w (Lib.hid (of_in_none 145 _ w (Lib.hid fun w' t hb => as_code_empty b t w' (hg.on hg.pos hb) ((hb.cell (p := ⟨b, 2, none⟩) (lt_of_cell h2)).trans h2))))

end Go.Proofs.YtpocjmlkhophoaaGreatDoor
