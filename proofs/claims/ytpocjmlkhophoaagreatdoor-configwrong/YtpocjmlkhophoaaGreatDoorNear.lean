/- fail.nearest: the outermost Fail of an error that is a Fail, nil for nil, for a code and for an error of errors.New's; all older memory stands. -/
import Derived.Test.YtpocjmlkhophoaaGreatDoorAs3
namespace Go.Proofs.YtpocjmlkhophoaaGreatDoor
open Go.RowKit Go.Extern.Stop Go.Stop Go.Extern

theorem lt_of_cell {w : World} {a : Addr} {v : Value} (h : w.cell? a = some v) : a.block < w.heap.size := by
  rcases Nat.lt_or_ge a.block w.heap.size with h' | h'
  · exact h'
  · simp [World.cell?, Array.getElem?_eq_none h'] at h

theorem ErrT.on {w w' : World} (h : ErrT w) {B : Nat} (hB : 0 < B) (hb : Below B w w') : ErrT w' := (hb.cell (p := ⟨0, 0, none⟩) hB).trans h

theorem ErrT.pos {w : World} (h : ErrT w) : 0 < w.heap.size := lt_of_cell h
theorem ErrT.alloc {w : World} (h : ErrT w) (o : Obj) : ErrT (w.alloc o) := h.on h.pos ((Below.refl _ _).alloc (Nat.le_refl _) o)

/-- errors.As at a *Fail finds a Fail. -/
theorem as_fail (ea t : Addr) (old : Value) (w : World) (hg : ErrT w) (ht : w.cell? t = some old) (hf : w.frozen? t = false) :
    Calls Tryz.prog 85 #[.iface 145 (.pointer (some ea)), .iface 181 (.pointer (some t))] w fun e w' =>
      e = .returned (.bool true) ∧ Below t.block w w' ∧ w'.cell? t = some (.pointer (some ea)) := by
  have htl := lt_of_cell ht
  refine as_through45 145 _ t w _ hg (Lib.hid ?_)
  refine (as_in_fail ea t ⟨w.heap.size, 0, none⟩ old _ ?_ ?_ ?_).mono ?_
  · rw [World.cell?_alloc_lt _ _ ⟨w.heap.size, 0, none⟩ (by simp)]; simp
  · rw [World.cell?_alloc_lt _ _ t (by simp; omega), World.cell?_alloc_lt _ _ t htl]; exact ht
  · rw [World.frozen?_alloc_old _ _ t (by simp; omega), World.frozen?_alloc_old _ _ t (Nat.ne_of_lt htl)]; exact hf
  rintro e w' ⟨rfl, rfl⟩
  refine ⟨true, rfl, rfl, ?_, ?_⟩
  · exact (((((Below.refl _ _).alloc (by omega) _).alloc (by simp; omega) _).alloc (by simp; omega) _).alloc (by simp; omega) _).setCell (Nat.le_refl _) _
  · refine World.cell?_setCell_same (u := old) _ _ _ ?_
    rw [World.cell?_alloc_lt _ _ t (by simp; omega), World.cell?_alloc_lt _ _ t (by simp; omega), World.cell?_alloc_lt _ _ t (by simp; omega), World.cell?_alloc_lt _ _ t htl]; exact ht

/-- errors.As at an api.Code finds it through all wraps. -/
theorem as_code (l : List (ByteArray × Int)) (v : Value) (c : Int) (t : Addr) (old : Value) (w : World) (hg : ErrT w) (hch : Chain w (.iface 32 (.int .i64 c)) l v) (ht : w.cell? t = some old) (hf : w.frozen? t = false) :
    Calls Tryz.prog 85 #[v, .iface 125 (.pointer (some t))] w fun e w' =>
      e = .returned (.bool true) ∧ Below t.block w w' ∧ w'.cell? t = some (.int .i64 c) := by
  have htl := lt_of_cell ht
  obtain ⟨te, ye, rfl⟩ := hch.iface
  refine as_through82 te ye t w _ hg (Lib.hid ?_)
  refine (as_in_code l _ c t ⟨w.heap.size, 0, none⟩ old _ (hch.on (((Below.refl _ _).alloc (Nat.le_refl _) _).alloc (by simp) _)) ?_ ?_ ?_).mono ?_
  · rw [World.cell?_alloc_lt _ _ ⟨w.heap.size, 0, none⟩ (by simp)]; simp
  · rw [World.cell?_alloc_lt _ _ t (by simp; omega), World.cell?_alloc_lt _ _ t htl]; exact ht
  · rw [World.frozen?_alloc_old _ _ t (by simp; omega), World.frozen?_alloc_old _ _ t (Nat.ne_of_lt htl)]; exact hf
  rintro e w' ⟨rfl, rfl⟩
  refine ⟨true, rfl, rfl, ?_, ?_⟩
  · exact (((((Below.refl _ _).alloc (by omega) _).alloc (by simp; omega) _).alloc (by simp; omega) _).alloc (by simp; omega) _).setCell (Nat.le_refl _) _
  · refine World.cell?_setCell_same (u := old) _ _ _ ?_
    rw [World.cell?_alloc_lt _ _ t (by simp; omega), World.cell?_alloc_lt _ _ t (by simp; omega), World.cell?_alloc_lt _ _ t (by simp; omega), World.cell?_alloc_lt _ _ t htl]; exact ht

/-- .. none in a Fail without an error. -/
theorem as_code_empty (b : Nat) (t : Addr) (w : World) (hg : ErrT w) (h2 : w.cell? ⟨b, 2, none⟩ = some .nilIface) :
    Calls Tryz.prog 85 #[.iface 145 (.pointer (some ⟨b, 0, none⟩)), .iface 125 (.pointer (some t))] w fun e w' => e = .returned (.bool false) ∧ Below w.heap.size w w' := by
  have hb : b < w.heap.size := lt_of_cell h2
  refine as_through82 145 _ t w _ hg (Lib.hid ?_)
  refine (as_in_empty b t ⟨w.heap.size, 0, none⟩ _ (by simp; omega) ?_).mono ?_
  · rw [World.cell?_alloc_lt _ _ ⟨b, 2, none⟩ (by simp; omega), World.cell?_alloc_lt _ _ ⟨b, 2, none⟩ hb]; exact h2
  rintro e w' ⟨rfl, rfl⟩
  exact ⟨false, rfl, rfl, (((Below.refl _ _).alloc (Nat.le_refl _) _).alloc (by simp) _).alloc (by simp; omega) _⟩

/-- No Fail: a code, or an error of errors.New's. -/
def NoFail (te : TypeId) : Prop := te = 32

theorem as_fail_none (te : TypeId) (x : Value) (hte : NoFail te) (t : Addr) (w : World) (hg : ErrT w) :
    Calls Tryz.prog 85 #[.iface te x, .iface 181 (.pointer (some t))] w fun e w' => e = .returned (.bool false) ∧ Below w.heap.size w w' := by
  refine as_through45 te _ t w _ hg (Lib.hid ?_)
  subst hte
  refine (as_in_miss45_22 x t ⟨w.heap.size, 0, none⟩ _).mono ?_
  rintro e w' ⟨rfl, rfl⟩
  exact ⟨false, rfl, rfl, (((Below.refl _ _).alloc (Nat.le_refl _) _).alloc (by simp) _).alloc (by simp; omega) _⟩

theorem bcell {B : Nat} {W w1 : World} (hb : Below B W w1) : (∀ b o, b < B → w1.cell? ⟨b, o, none⟩ = W.cell? ⟨b, o, none⟩) ∧ (∀ b o, b < B → w1.frozen? ⟨b, o, none⟩ = W.frozen? ⟨b, o, none⟩) :=
  ⟨fun b o h => hb.cell (p := ⟨b, o, none⟩) h, fun b o h => hb.frozen (p := ⟨b, o, none⟩) h⟩

/-- two new blocks of one cell, and a third: the cells. -/
theorem two_cell (w : World) (x y : Value) (s t : TypeId) (o : Obj) : (((w.alloc (.cells #[x] s)).alloc (.cells #[y] t)).alloc o).cell? ⟨w.heap.size + 1, 0, none⟩ = some y := by
  rw [World.cell?_alloc_lt _ _ ⟨w.heap.size + 1, 0, none⟩ (by simp)]; simp
theorem two_frozen (w : World) (x y : Value) (s t : TypeId) (o : Obj) : (((w.alloc (.cells #[x] s)).alloc (.cells #[y] t)).alloc o).frozen? ⟨w.heap.size + 1, 0, none⟩ = false := by
  rw [World.frozen?_alloc_old _ _ ⟨w.heap.size + 1, 0, none⟩ (by simp)]; simp
theorem two_below (w : World) (a b c : Obj) : Below w.heap.size w (((w.alloc a).alloc b).alloc c) :=
  ((((Below.refl w.heap.size w).alloc (Nat.le_refl _) _).alloc (by simp) _).alloc (by simp; omega) _)
theorem three_cell (w : World) (a b : Obj) (z : Value) (t : TypeId) : (((w.alloc a).alloc b).alloc (.cells #[z] t)).cell? ⟨w.heap.size + 1 + 1, 0, none⟩ = some z := by rw [World.cell?_alloc_at _ _ _ _ (by simp)]; rfl
theorem three_frozen (w : World) (a b : Obj) (z : Value) (t : TypeId) : (((w.alloc a).alloc b).alloc (.cells #[z] t)).frozen? ⟨w.heap.size + 1 + 1, 0, none⟩ = false := by simp [go_sem]
theorem size3 (w : World) (a b c : Obj) : (((w.alloc a).alloc b).alloc c).heap.size = w.heap.size + 1 + 1 + 1 := by simp

/-- the closure of fail.nearest, at a Fail. -/
theorem near_in_fail (ea : Addr) (w : World) (hg : ErrT w) :
    Calls Tryz.prog 134 #[.pointer (some ⟨w.heap.size, 0, none⟩), .pointer (some ⟨w.heap.size + 1, 0, none⟩)] ((w.alloc (.cells #[.iface 145 (.pointer (some ea))] 39)).alloc (.cells #[.pointer none] 145)) fun e w' => e = .returned (.tuple #[]) ∧ (Below w.heap.size w w' ∧ w'.cell? ⟨w.heap.size + 1, 0, none⟩ = some (.pointer (some ea))) := by
  have HG := Lib.hid hg
  clear hg
  go_enter Tryz.func134, Tryz.ntmps134
  go_wp2_with fail
  refine (as_fail ea ⟨w.heap.size + 1 + 1, 0, none⟩ (.pointer none) _ (((HG.out.alloc _).alloc _).alloc _) (three_cell _ _ _ _ _) (three_frozen _ _ _ _ _)).mono ?_
  rintro e w' ⟨rfl, hb, hc⟩
  have h1 : w'.cell? ⟨w.heap.size + 1, 0, none⟩ = some (.pointer none) := (hb.cell (p := ⟨w.heap.size + 1, 0, none⟩) (Nat.lt_succ_self _)).trans (two_cell _ _ _ _ _ _)
  have f1 : w'.frozen? ⟨w.heap.size + 1, 0, none⟩ = false := (hb.frozen (p := ⟨w.heap.size + 1, 0, none⟩) (Nat.lt_succ_self _)).trans (two_frozen _ _ _ _ _ _)
  have HB : Hid (Below w.heap.size w w') := Lib.hid ((two_below w _ _ _).trans (hb.mono (show w.heap.size ≤ w.heap.size + 1 + 1 by omega)))
  clear hb
  go_wp2
  go_end0
  exact ⟨rfl, HB.out.setCell (by simp) _, World.cell?_setCell_same _ _ _ h1⟩

/-- the closure of fail.nearest, where no Fail is found. -/
theorem near_in_none (te : TypeId) (x : Value) (hte : NoFail te) (w : World) (hg : ErrT w) :
    Calls Tryz.prog 134 #[.pointer (some ⟨w.heap.size, 0, none⟩), .pointer (some ⟨w.heap.size + 1, 0, none⟩)] ((w.alloc (.cells #[.iface te x] 39)).alloc (.cells #[.pointer none] 145)) fun e w' => e = .returned (.tuple #[]) ∧ (Below w.heap.size w w' ∧ w'.cell? ⟨w.heap.size + 1, 0, none⟩ = some (.pointer none)) := by
  have HG := Lib.hid hg
  have HT := Lib.hid hte
  clear hg hte
  go_enter Tryz.func134, Tryz.ntmps134
  go_wp2_with fail
  refine (as_fail_none te x HT.out ⟨w.heap.size + 1 + 1, 0, none⟩ _ (((HG.out.alloc _).alloc _).alloc _)).mono ?_
  rintro e w' ⟨rfl, hb⟩
  rw [size3] at hb
  have HB : Hid (Below w.heap.size w w' ∧ w'.cell? ⟨w.heap.size + 1, 0, none⟩ = some (.pointer none)) := Lib.hid ⟨(two_below w _ _ _).trans (hb.mono (by omega)), (hb.cell (p := ⟨w.heap.size + 1, 0, none⟩) (show w.heap.size + 1 < w.heap.size + 1 + 1 + 1 by omega)).trans (two_cell _ _ _ _ _ _)⟩
  clear hb
  go_wp2
  go_end0
  exact ⟨rfl, HB.out⟩

theorem near_in_nil (w : World) :
    Calls Tryz.prog 134 #[.pointer (some ⟨w.heap.size, 0, none⟩), .pointer (some ⟨w.heap.size + 1, 0, none⟩)] ((w.alloc (.cells #[.nilIface] 39)).alloc (.cells #[.pointer none] 145)) fun e w' => e = .returned (.tuple #[]) ∧ (Below w.heap.size w w' ∧ w'.cell? ⟨w.heap.size + 1, 0, none⟩ = some (.pointer none)) := by
  go_enter Tryz.func134, Tryz.ntmps134
  go_wp2_with fail
  refine (as_nil _ _).mono ?_
  rintro e w' ⟨rfl, rfl⟩
  go_wp2
  go_end0
  exact ⟨rfl, two_below w _ _ _, two_cell _ _ _ _ _ _⟩

/-- fail.nearest, out of its closure. -/
theorem near_through (v : Value) (hv : v = .nilIface ∨ ∃ t x, v = .iface t x) (r : Option Addr) (w : World)
    (H : Hid (Calls Tryz.prog 134 #[.pointer (some ⟨w.heap.size, 0, none⟩), .pointer (some ⟨w.heap.size + 1, 0, none⟩)] ((w.alloc (.cells #[v] 39)).alloc (.cells #[.pointer none] 145)) fun e w' => e = .returned (.tuple #[]) ∧ (Below w.heap.size w w' ∧ w'.cell? ⟨w.heap.size + 1, 0, none⟩ = some (.pointer r)))) :
    Calls Tryz.prog 103 #[v] w fun e w' => e = .returned (.pointer r) ∧ Below w.heap.size w w' := by
  have hmf : ∀ (fn : Fn) (first cap : Array Value) (w : World), (Instr.makeFunc fn first cap).run Tryz.prog w = .ok (.func fn first cap) w := fun _ _ _ _ => rfl
  rcases hv with rfl | ⟨tv, xv, rfl⟩
  all_goals
    go_enter Tryz.func103, Tryz.ntmps103
    go_wp2_with fail
    refine (guard_any 134 _ _ _ (cf47 _) H).mono ?_
    rintro e w' ⟨rfl, hb, hc⟩
    have HB := Lib.hid hb
    clear hb
    go_wp2
    go_ret
    exact ⟨rfl, HB.out⟩

/-- fail.nearest of a Fail is that Fail. -/
theorem near_fail (ea : Addr) (w : World) (hg : ErrT w) : Calls Tryz.prog 103 #[.iface 145 (.pointer (some ea))] w fun e w' => e = .returned (.pointer (some ea)) ∧ Below w.heap.size w w' :=
  near_through _ (.inr ⟨_, _, rfl⟩) _ w (Lib.hid (near_in_fail ea w hg))
/-- .. of a code or an error of errors.New's nil. -/
theorem near_none (te : TypeId) (x : Value) (hte : NoFail te) (w : World) (hg : ErrT w) : Calls Tryz.prog 103 #[.iface te x] w fun e w' => e = .returned (.pointer none) ∧ Below w.heap.size w w' :=
  near_through _ (.inr ⟨_, _, rfl⟩) _ w (Lib.hid (near_in_none te x hte w hg))
/-- .. of nil nil. -/
theorem near_nil (w : World) : Calls Tryz.prog 103 #[.nilIface] w fun e w' => e = .returned (.pointer none) ∧ Below w.heap.size w w' :=
  near_through _ (.inl rfl) _ w (Lib.hid (near_in_nil w))
end Go.Proofs.YtpocjmlkhophoaaGreatDoor
