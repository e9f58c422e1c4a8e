/- Rows of numbers that lie somewhere; yardref.Ints and slices.Equal of two of them. -/
import Derived.Test.YtngfaailbkadfaaDoorByt
import Derived.BigQuiet
import Derived.IntWalk
namespace Go.Proofs.YtngfaailbkadfaaDoor
open Go.RowKit Go.Extern.Stop Go.Stop Go.Extern

theorem below_drewN' {B : Nat} {a w : World} (h : Below B a w) (n : Nat) : Below B a (w.drewN n) := ⟨h.os, h.tape, h.output, h.size, h.block⟩
theorem next_int (i : Nat) (h : i < 1000000) : Value.int .i64 (wrap64 ((i : Int) + 1)) = .int .i64 ((i + 1 : Nat) : Int) := by
  congr 1
  unfold wrap64
  omega
/-- Numbers as cells. -/
def icells (l : List Int) : List Value := l.map fun x => .int .i64 x
theorem icells_length (l : List Int) : (icells l).length = l.length := by simp [icells]
theorem icells_get (l : List Int) (i : Nat) (h : i < l.length) : (icells l)[i]? = some (.int .i64 l[i]) := by simp [icells, h]
/-- A slice of numbers that lie somewhere. -/
def IntsAt (w : World) (v : Value) (l : List Int) : Prop :=
  ∃ ao cap, v = .slice ao l.length cap ∧ ∀ i (h : i < l.length), ∃ b off, ao = some ⟨b, off, none⟩ ∧ w.cell? ⟨b, off + i, none⟩ = some (.int .i64 l[i])
theorem IntsAt.on {w w' : World} {v : Value} {l : List Int} (h : IntsAt w v l) (hb : Below w.heap.size w w') : IntsAt w' v l := by
  obtain ⟨ao, cap, hv, hc⟩ := h
  refine ⟨ao, cap, hv, fun i hi => ?_⟩
  obtain ⟨b, off, ha, hcell⟩ := hc i hi
  exact ⟨b, off, ha, (hb.cell (p := ⟨b, off + i, none⟩) (lt_cell hcell)).trans hcell⟩
theorem intsAt_own {w : World} {base : Nat} {v : Value} {l : List Int} (h : w.ownsRow base 3 1 v l.length (icells l)) : IntsAt w v l := by
  rcases h.2 with ⟨hv, h0⟩ | ⟨g, cap, cur, hv, _⟩
  · exact ⟨none, 0, by rw [hv, h0], fun i hi => by omega⟩
  · refine ⟨some ⟨g, 0, none⟩, cap, hv, fun i hi => ?_⟩
    subst hv
    exact ⟨g, 0, rfl, by rw [Nat.zero_add]; exact (h.cellAt i (by omega)).trans (icells_get l i hi)⟩

set_option maxRecDepth 100000 in
set_option maxHeartbeats 4000000 in
/-- yardref.Ints. -/
theorem ints_any (u v : Value) (l m : List Int) (w : World) (hu : IntsAt w u l) (hv : IntsAt w v m) (hl : l.length ≤ 1000000) : Calls Tryd.prog 17 #[u, v] w fun e w' => e = .returned (.bool (l == m)) ∧ Below w.heap.size w w' := by
  have HU := Lib.hid hu
  have HV := Lib.hid hv
  have HL := Lib.hid hl
  obtain ⟨au, cu, rfl, _⟩ := hu
  obtain ⟨av, cv, rfl, _⟩ := hv
  clear hl
  by_cases hlen : l.length = m.length
  · have hq : ((l.length : Int) != (m.length : Int)) = false := by simp [hlen]
    have HQ := Lib.hid hlen
    clear hlen
    go_enter Tryd.func17, Tryd.ntmps17
    go_wp2
    go_loopg [5] l.length (fun k s5 wr => ∃ i : Nat, i ≤ l.length ∧ k = l.length - i ∧ s5 = .int .i64 i ∧ Hid (Below w.heap.size w wr ∧ l.take i = m.take i))
    case atStart => exact ⟨0, Nat.zero_le _, rfl, rfl, Lib.hid ⟨Below.refl _ _, rfl⟩⟩
    case round =>
      obtain ⟨i, hi, rfl, rfl, hbr⟩ := hrel
      by_cases hlt : i < l.length
      · have hlt2 : i < m.length := by have := HQ.out; omega
        obtain ⟨au', cu', he, hcu⟩ := HU.out.on hbr.out.1
        obtain ⟨bu, ou, hbu, pu⟩ := hcu i hlt
        simp only [Value.slice.injEq] at he
        obtain ⟨rfl, _, rfl⟩ := he
        subst hbu
        obtain ⟨av', cv', he, hcv⟩ := HV.out.on hbr.out.1
        obtain ⟨bv, ov, hbv, pv⟩ := hcv i hlt2
        simp only [Value.slice.injEq] at he
        obtain ⟨rfl, _, rfl⟩ := he
        subst hbv
        have hi0 : (0 : Int) ≤ (i : Int) := by omega
        have hil : (i : Int) < (l.length : Int) := by omega
        have him : (i : Int) < (m.length : Int) := by omega
        have HT : Hid (l.take (i + 1) = l.take i ++ [l[i]] ∧ m.take (i + 1) = m.take i ++ [m[i]]) := Lib.hid ⟨(List.take_append_getElem hlt).symm, (List.take_append_getElem hlt2).symm⟩
        clear hcu hcv
        by_cases hx : l[i] = m[i]
        · have hx' : (l[i] != m[i]) = false := by simpa using hx
          have HX := Lib.hid hx
          clear hx
          generalize l[i] = y at *
          generalize m[i] = z at *
          go_wp2_with fail
          go_quiet (fail)
          go_wp2
          go_roundg (l.length - (i + 1))
          case measure => omega
          case rel => exact ⟨i + 1, by omega, rfl, next_int i (by have := HL.out; omega), Lib.hid ⟨below_drewN' hbr.out.1 _, by rw [HT.out.1, HT.out.2, hbr.out.2, HX.out]⟩⟩
        · have hx' : (l[i] != m[i]) = true := by simpa using hx
          have HX := Lib.hid hx
          clear hx
          have HN : Hid ((l == m) = false) := Lib.hid (by
            rw [beq_eq_false_iff_ne]
            exact fun e => HX.out (by subst e; rfl))
          generalize l[i] = y at *
          generalize m[i] = z at *
          go_wp2_with fail
          go_quiet (fail)
          go_wp2
          go_ret
          refine ⟨?_, below_drewN' hbr.out.1 _⟩
          rw [HN.out]; rfl
      · have hil : (l.length : Int) ≤ (i : Int) := by omega
        go_wp2
        go_ret
        refine ⟨?_, hbr.out.1⟩
        have h2 := hbr.out.2
        have h3 := HQ.out
        rw [List.take_of_length_le (by omega), List.take_of_length_le (by omega)] at h2
        rw [h2]
        simp
  · have hq : ((l.length : Int) != (m.length : Int)) = true := by simp; omega
    have HQ := Lib.hid hlen
    clear hlen
    go_enter Tryd.func17, Tryd.ntmps17
    go_wp2
    go_ret
    refine ⟨?_, Below.refl _ _⟩
    have : (l == m) = false := by
      rw [beq_eq_false_iff_ne]
      exact fun e => HQ.out (by rw [e])
    rw [this]; rfl

end Go.Proofs.YtngfaailbkadfaaDoor
