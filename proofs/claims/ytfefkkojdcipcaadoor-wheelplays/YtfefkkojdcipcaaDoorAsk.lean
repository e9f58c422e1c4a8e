/- wheel.At and wheel.Next. -/
import Derived.Test.YtfefkkojdcipcaaDoorFind
namespace Go.Proofs.YtfefkkojdcipcaaDoor
open Go.RowKit Go.Extern.Stop Go.Stop Go.Extern

theorem at_any (B p : Nat) (now : Int) (v : Value) (ts : List (Int × Int)) (id : Int) (w : World) (h : WhAt w B p now v ts) (hl : ts.length ≤ 100000) :
    Calls Tryd.prog 24 #[.pointer (some ⟨p, 0, none⟩), .int .i64 id] w fun e w' => e = .returned (.tuple #[.int .i64 ((atT ts id).getD 0), .bool (atT ts id).isSome]) ∧ Below w.heap.size w w' := by
  have H := Lib.hid h
  have HF := Lib.hid (find_any B p now v ts id w h hl)
  rcases find_cases ts id 0 with ⟨h1, h2, _⟩ | ⟨j, hj, h1, h2, _⟩
  · rw [h1] at HF
    rw [h2]
    clear h hl h1 h2
    go_enter Tryd.func24, Tryd.ntmps24
    go_wp2_with fail
    refine HF.out.mono ?_
    rintro e w' ⟨rfl, hb⟩
    have HB := Lib.hid hb
    clear hb
    go_wp2
    go_ret2
    exact ⟨rfl, HB.out⟩
  · rw [h1, Nat.zero_add] at HF
    rw [h2]
    have HJ := Lib.hid hj
    clear h hl h1 h2
    go_enter Tryd.func24, Tryd.ntmps24
    go_wp2_with fail
    refine HF.out.mono ?_
    rintro e w' ⟨rfl, hb⟩
    have HB := Lib.hid hb
    have c1 := (H.out.on hb).c1
    obtain ⟨ao, cap, rfl, _, _, hcell⟩ := (H.out.on hb).form
    obtain ⟨g, hg, p0, p1⟩ := hcell j HJ.out
    subst hg
    have hi0 : (0 : Int) ≤ (j : Int) := by omega
    have hil : (j : Int) < (ts.length : Int) := by have := HJ.out; omega
    clear hb hcell
    go_wp2
    go_ret2
    exact ⟨rfl, HB.out⟩
theorem next_any (B p : Nat) (now : Int) (v : Value) (ts : List (Int × Int)) (w : World) (h : WhAt w B p now v ts) :
    Calls Tryd.prog 22 #[.pointer (some ⟨p, 0, none⟩)] w fun e w' => e = .returned (.tuple #[.int .i64 ((ts.head?.map (·.2)).getD 0), .bool ts.head?.isSome]) ∧ w = w' := by
  have c1 := h.c1
  obtain ⟨ao, cap, rfl, _, _, hcell⟩ := h.form
  cases ts with
  | nil =>
    clear hcell h
    go_enter Tryd.func22, Tryd.ntmps22
    go_wp2
    go_ret2
    exact ⟨rfl, rfl⟩
  | cons t l =>
    obtain ⟨g, hg, p0, p1⟩ := hcell 0 (by simp)
    subst hg
    have hn : (((t :: l).length : Int) == 0) = false := by simp; omega
    have hn2 : (0 : Int) < ((t :: l).length : Int) := by simp
    clear hcell h
    generalize (t :: l).length = n at *
    simp only [List.getElem_cons_zero, Nat.zero_mul, Nat.zero_add] at p0 p1
    simp only [List.head?_cons]
    go_enter Tryd.func22, Tryd.ntmps22
    go_wp2
    go_ret2
    exact ⟨rfl, rfl⟩
end Go.Proofs.YtfefkkojdcipcaaDoor
