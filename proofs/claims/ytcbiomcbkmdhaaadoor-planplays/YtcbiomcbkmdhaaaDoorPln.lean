/- plan's faces in memory: fault, has, Len, Due, Done. -/
import Derived.Test.YtcbiomcbkmdhaaaDoorPure
import Derived.Deep.RegionLaw
import Derived.Deep.RegionHeld3
import Derived.Deep.LoopGhost
import Derived.IntWalk
import Derived.StillTailTactics
namespace Go.Proofs.YtcbiomcbkmdhaaaDoor
open Go.RowKit Go.Extern.Stop Go.Stop Go.Extern

theorem fault_any (x c : Int) (w : World) : Calls Tryd.prog 18 #[.int .i64 x, .int .i64 c] w fun e w' => (∃ v, e = .returned v ∧ PErr w' x c v) ∧ Below w.heap.size w w' := by
  go_enter Tryd.func18, Tryd.ntmps18
  go_wp2_with fail
  refine (in_some _ _ _ _ _).mono ?_
  rintro e w1 ⟨rfl, rfl⟩
  go_wp2
  go_ret
  exact ⟨⟨_, rfl, w.heap.size, rfl, heap_alloc_new w _⟩, below_nw _ _⟩
/-- Is there a poll i? -/
def hasP (ts : List (Int × Int)) (i : Int) : Bool := decide (0 ≤ i ∧ i < ts.length)
theorem has_any (B p : Nat) (v : Value) (ts : List (Int × Int)) (i : Int) (w : World) (h : PlAt w B p v ts) : Calls Tryd.prog 23 #[.pointer (some ⟨p, 0, none⟩), .int .i64 i] w fun e w' => e = .returned (.bool (hasP ts i)) ∧ Below w.heap.size w w' := by
  have c0 := h.c0
  obtain ⟨ao, cap, rfl, _⟩ := h.form
  clear h
  by_cases h0 : 0 ≤ i
  · by_cases h1 : i < (ts.length : Int)
    · have HE : Hid (hasP ts i = true) := Lib.hid (by simp [hasP, h0, h1])
      go_enter Tryd.func23, Tryd.ntmps23
      go_wp2_with fail
      all_goals try go_quiet (fail)
      all_goals go_wp2
      all_goals go_ret
      all_goals exact ⟨by rw [HE.out]; rfl, by first | exact Below.refl _ _ | exact below_drew _ _⟩
    · have HE : Hid (hasP ts i = false) := Lib.hid (by simp [hasP, h0]; omega)
      go_enter Tryd.func23, Tryd.ntmps23
      go_wp2_with fail
      all_goals try go_quiet (fail)
      all_goals go_wp2
      all_goals go_ret
      all_goals exact ⟨by rw [HE.out]; rfl, by first | exact Below.refl _ _ | exact below_drew _ _⟩
  · have HE : Hid (hasP ts i = false) := Lib.hid (by simp [hasP]; omega)
    go_enter Tryd.func23, Tryd.ntmps23
    go_wp2_with fail
    all_goals try go_quiet (fail)
    all_goals go_wp2
    all_goals go_ret
    all_goals exact ⟨by rw [HE.out]; rfl, by first | exact Below.refl _ _ | exact below_drew _ _⟩
theorem len_any (B p : Nat) (v : Value) (ts : List (Int × Int)) (w : World) (h : PlAt w B p v ts) : Calls Tryd.prog 17 #[.pointer (some ⟨p, 0, none⟩)] w fun e w' => e = .returned (.int .i64 (ts.length : Int)) ∧ w = w' := by
  have c0 := h.c0
  obtain ⟨ao, cap, rfl, _⟩ := h.form
  clear h
  go_enter Tryd.func17, Tryd.ntmps17
  go_wp2
  go_ret
  exact ⟨rfl, rfl⟩
/-- Due. -/
theorem due_yes (B p : Nat) (v : Value) (ts : List (Int × Int)) (i : Nat) (w : World) (h : PlAt w B p v ts) (hi : i < ts.length) : Calls Tryd.prog 15 #[.pointer (some ⟨p, 0, none⟩), .int .i64 (i : Int)] w fun e w' => e = .returned (.tuple #[.int .i64 (dueP ts i), .bool true]) ∧ Below w.heap.size w w' := by
  have HH := Lib.hid (has_any B p v ts (i : Int) w h)
  have HE : Hid (hasP ts (i : Int) = true) := Lib.hid (by simp [hasP, hi])
  have H := Lib.hid h
  have hd : Hid (dueP ts i = ts[i].2) := Lib.hid (by unfold dueP; simp [List.getD, hi])
  clear h
  go_enter Tryd.func15, Tryd.ntmps15
  go_wp2_with fail
  refine HH.out.mono ?_
  rintro e w1 ⟨rfl, hb⟩
  rw [HE.out]
  have HB := Lib.hid hb
  have H1 := Lib.hid (H.out.on hb)
  have c0 := H1.out.c0
  obtain ⟨ao, cap, he, _, _, hcell⟩ := H1.out.form
  subst he
  obtain ⟨g, hg, p0, p1⟩ := hcell i hi
  subst hg
  have hi0 : (0 : Int) ≤ (i : Int) := by omega
  have hil : (i : Int) < (ts.length : Int) := by omega
  rw [← hd.out] at p1
  clear hcell hb p0
  go_wp2_with fail
  all_goals try go_quiet (fail)
  all_goals go_wp2
  all_goals go_ret2
  all_goals exact ⟨rfl, by first | exact HB.out | exact below_drewN' HB.out _⟩
theorem due_no (B p : Nat) (v : Value) (ts : List (Int × Int)) (i : Int) (w : World) (h : PlAt w B p v ts) (hi : hasP ts i = false) : Calls Tryd.prog 15 #[.pointer (some ⟨p, 0, none⟩), .int .i64 i] w fun e w' => e = .returned (.tuple #[.int .i64 0, .bool false]) ∧ Below w.heap.size w w' := by
  have HH := Lib.hid (has_any B p v ts i w h)
  have HE := Lib.hid hi
  clear h hi
  go_enter Tryd.func15, Tryd.ntmps15
  go_wp2_with fail
  refine HH.out.mono ?_
  rintro e w1 ⟨rfl, hb⟩
  rw [HE.out]
  have HB := Lib.hid hb
  clear hb
  go_wp2
  go_ret2
  exact ⟨rfl, HB.out⟩
end Go.Proofs.YtcbiomcbkmdhaaaDoor
