/- wheel.idsOf, wheel.List, slices.Clone of timers, wheel.Copy; yardref.Ints. -/
import Derived.Test.YtfefkkojdcipcaaDoorRow
import Derived.Test.YtfefkkojdcipcaaDoorFind
import Derived.Test.YtfefkkojdcipcaaDoorShelf
namespace Go.Proofs.YtfefkkojdcipcaaDoor
open Go.RowKit Go.Extern.Stop Go.Stop Go.Extern

/-- Numbers as cells. -/
def icells (l : List Int) : List Value := l.map fun x => .int .i64 x
theorem icells_length (l : List Int) : (icells l).length = l.length := by simp [icells]
theorem icells_get (l : List Int) (i : Nat) (h : i < l.length) : (icells l)[i]? = some (.int .i64 l[i]) := by simp [icells, h]
/-- A slice of numbers that lie somewhere. -/
def IntsAt (w : World) (v : Value) (l : List Int) : Prop :=
  ∃ ao cap, v = .slice ao l.length cap ∧ ∀ i (h : i < l.length), ∃ b off, ao = some ⟨b, off, none⟩ ∧ w.cell? ⟨b, off + i, none⟩ = some (.int .i64 l[i])
theorem lt_cell {w : World} {a : Addr} {v : Value} (h : w.cell? a = some v) : a.block < w.heap.size := by
  rcases Nat.lt_or_ge a.block w.heap.size with h' | h'
  · exact h'
  · simp [World.cell?, Array.getElem?_eq_none h'] at h
theorem IntsAt.on {w w' : World} {v : Value} {l : List Int} (h : IntsAt w v l) (hb : Below w.heap.size w w') : IntsAt w' v l := by
  obtain ⟨ao, cap, hv, hc⟩ := h
  refine ⟨ao, cap, hv, fun i hi => ?_⟩
  obtain ⟨b, off, ha, hcell⟩ := hc i hi
  exact ⟨b, off, ha, (hb.cell (p := ⟨b, off + i, none⟩) (lt_cell hcell)).trans hcell⟩
theorem intsAt_own {w : World} {base : Nat} {v : Value} {l : List Int} (h : w.ownsRow base 3 1 v l.length (icells l)) : IntsAt w v l := by
  rcases h.2 with ⟨hv, h0⟩ | ⟨g, cap, cur, hv, _⟩
  · exact ⟨none, 0, by rw [hv, h0], fun i hi => by omega⟩
  · refine ⟨some ⟨g, 0, none⟩, cap, hv, fun i hi => ?_⟩
    subst hv
    exact ⟨g, 0, rfl, by rw [Nat.zero_add]; exact (h.cellAt i (by omega)).trans (icells_get l i hi)⟩

set_option maxRecDepth 100000 in
set_option maxHeartbeats 4000000 in
/-- yardref.Ints. -/
theorem ints_any (u v : Value) (l m : List Int) (w : World) (hu : IntsAt w u l) (hv : IntsAt w v m) (hl : l.length ≤ 1000000) : Calls Tryd.prog 18 #[u, v] w fun e w' => e = .returned (.bool (l == m)) ∧ Below w.heap.size w w' := by
  have HU := Lib.hid hu
  have HV := Lib.hid hv
  have HL := Lib.hid hl
  obtain ⟨au, cu, rfl, _⟩ := hu
  obtain ⟨av, cv, rfl, _⟩ := hv
  clear hl
  by_cases hlen : l.length = m.length
  · have hq : ((l.length : Int) != (m.length : Int)) = false := by simp [hlen]
    have HQ := Lib.hid hlen
    clear hlen
    go_enter Tryd.func18, Tryd.ntmps18
    go_wp2
    go_loopg [5] l.length (fun k s5 wr => ∃ i : Nat, i ≤ l.length ∧ k = l.length - i ∧ s5 = .int .i64 i ∧ Hid (Below w.heap.size w wr ∧ l.take i = m.take i))
    case atStart => exact ⟨0, Nat.zero_le _, rfl, rfl, Lib.hid ⟨Below.refl _ _, rfl⟩⟩
    case round =>
      obtain ⟨i, hi, rfl, rfl, hbr⟩ := hrel
      by_cases hlt : i < l.length
      · have hlt2 : i < m.length := by have := HQ.out; omega
        obtain ⟨au', cu', he, hcu⟩ := HU.out.on hbr.out.1
        obtain ⟨bu, ou, hbu, pu⟩ := hcu i hlt
        simp only [Value.slice.injEq] at he
        obtain ⟨rfl, _, rfl⟩ := he
        subst hbu
        obtain ⟨av', cv', he, hcv⟩ := HV.out.on hbr.out.1
        obtain ⟨bv, ov, hbv, pv⟩ := hcv i hlt2
        simp only [Value.slice.injEq] at he
        obtain ⟨rfl, _, rfl⟩ := he
        subst hbv
        have hi0 : (0 : Int) ≤ (i : Int) := by omega
        have hil : (i : Int) < (l.length : Int) := by omega
        have him : (i : Int) < (m.length : Int) := by omega
        have HT : Hid (l.take (i + 1) = l.take i ++ [l[i]] ∧ m.take (i + 1) = m.take i ++ [m[i]]) := Lib.hid ⟨(List.take_append_getElem hlt).symm, (List.take_append_getElem hlt2).symm⟩
        clear hcu hcv
        by_cases hx : l[i] = m[i]
        · have hx' : (l[i] != m[i]) = false := by simpa using hx
          have HX := Lib.hid hx
          clear hx
          generalize l[i] = y at *
          generalize m[i] = z at *
          go_wp2_with fail
          go_quiet (fail)
          go_wp2
          go_roundg (l.length - (i + 1))
          case measure => omega
          case rel => exact ⟨i + 1, by omega, rfl, next_int i (by have := HL.out; omega), Lib.hid ⟨below_drewN' hbr.out.1 _, by rw [HT.out.1, HT.out.2, hbr.out.2, HX.out]⟩⟩
        · have hx' : (l[i] != m[i]) = true := by simpa using hx
          have HX := Lib.hid hx
          clear hx
          have HN : Hid ((l == m) = false) := Lib.hid (by
            rw [beq_eq_false_iff_ne]
            exact fun e => HX.out (by subst e; rfl))
          generalize l[i] = y at *
          generalize m[i] = z at *
          go_wp2_with fail
          go_quiet (fail)
          go_wp2
          go_ret
          refine ⟨?_, below_drewN' hbr.out.1 _⟩
          rw [HN.out]; rfl
      · have hil : (l.length : Int) ≤ (i : Int) := by omega
        go_wp2
        go_ret
        refine ⟨?_, hbr.out.1⟩
        have h2 := hbr.out.2
        have h3 := HQ.out
        rw [List.take_of_length_le (by omega), List.take_of_length_le (by omega)] at h2
        rw [h2]
        simp
  · have hq : ((l.length : Int) != (m.length : Int)) = true := by simp; omega
    have HQ := Lib.hid hlen
    clear hlen
    go_enter Tryd.func18, Tryd.ntmps18
    go_wp2
    go_ret
    refine ⟨?_, Below.refl _ _⟩
    have : (l == m) = false := by
      rw [beq_eq_false_iff_ne]
      exact fun e => HQ.out (by rw [e])
    rw [this]; rfl

/-- What idsOf makes. -/
def IdsIs (w : World) (l : List Int) (e : Ending) (w' : World) : Prop :=
  ∃ g, e = .returned (.slice (some ⟨g, 0, none⟩) l.length l.length) ∧ w'.ownsRow w.heap.size 3 1 (.slice (some ⟨g, 0, none⟩) l.length l.length) l.length (icells l) ∧ Below w.heap.size w w'

theorem info3p : ∃ i0, Tryd.prog.info? 3 = some i0 ∧ i0.zero = some (.int .i64 0) ∧ i0.size = 1 ∧ i0.bytes = 8 := by
  have : (Tryd.prog.info? 3).map (fun i => (i.zero, i.size, i.bytes)) = some (some (.int .i64 0), 1, 8) := by kernel_rfl
  cases h : Tryd.prog.info? 3 with
  | none => rw [h] at this; cases this
  | some i0 => rw [h] at this; simp at this; exact ⟨i0, rfl, this.1, this.2.1, this.2.2⟩
/-- A row of numbers whose first are laid. -/
def Laid (w : World) (B : Nat) (v : Value) (l : List Int) (i : Nat) : Prop := ∃ zs : List Value, zs.length = l.length - i ∧ w.ownsRow B 3 1 v l.length (icells (l.take i) ++ zs)
theorem Laid.next {w : World} {B g c : Nat} {l : List Int} {i : Nat} (hi : i < l.length) (h : Laid w B (.slice (some ⟨g, 0, none⟩) l.length c) l i) : Laid (w.setCell ⟨g, i, none⟩ (.int .i64 l[i])) B (.slice (some ⟨g, 0, none⟩) l.length c) l (i + 1) := by
  obtain ⟨zs, hz, ho⟩ := h
  cases zs with
  | nil => simp at hz; omega
  | cons z zs =>
    refine ⟨zs, by simp at hz; omega, ?_⟩
    have h2 := ho.stored i (.int .i64 l[i])
    have hl : (icells (l.take i)).length = i := by rw [icells_length, List.length_take]; omega
    rw [List.set_append_right _ _ (by omega), hl, Nat.sub_self, List.set_cons_zero] at h2
    rw [← List.take_append_getElem hi]
    simp only [icells, List.map_append, List.map_cons, List.map_nil, List.append_assoc, List.cons_append, List.nil_append]
    simp only [icells] at h2
    exact h2.1
theorem Laid.done {w : World} {B : Nat} {v : Value} {l : List Int} (h : Laid w B v l l.length) : w.ownsRow B 3 1 v l.length (icells l) := by
  obtain ⟨zs, hz, ho⟩ := h
  rw [Nat.sub_self] at hz
  rw [List.length_eq_zero_iff.1 hz, List.append_nil, List.take_length] at ho
  exact ho
theorem Laid.alloc {w : World} {B : Nat} {v : Value} {l : List Int} {i : Nat} (h : Laid w B v l i) (o : Obj) : Laid (w.alloc o) B v l i := by
  obtain ⟨zs, hz, ho⟩ := h
  exact ⟨zs, hz, ho.alloc o⟩

set_option maxRecDepth 100000 in
set_option maxHeartbeats 4000000 in
theorem idsOf_any (ao : Option Addr) (cap : Nat) (ts : List (Int × Int)) (w : World) (h : ∀ i (hi : i < ts.length), ∃ g, ao = some ⟨g, 0, none⟩ ∧ w.cell? ⟨g, i * 2, none⟩ = some (.int .i64 ts[i].1) ∧ w.cell? ⟨g, i * 2 + 1, none⟩ = some (.int .i64 ts[i].2)) (hl : ts.length ≤ 100000) :
    Calls Tryd.prog 38 #[.slice ao ts.length cap] w (IdsIs w (ts.map (·.1))) := by
  obtain ⟨i0, hi0, hz0, hz1, hz2⟩ := info3p
  obtain ⟨w0, hr, ho, hg⟩ := run_makeSlice_full (P := Tryd.prog) w w.heap.size 42 3 i0 _ 1 Tryd.underlying42 hi0 hz0 hz1 .i64 .i64 ts.length (by omega) (by rw [hz2]; omega) (by unfold maxLen; omega) (Nat.le_refl _)
  have H := Lib.hid h
  have HL := Lib.hid hl
  have hlm : (ts.map (·.1)).length = ts.length := by simp
  have HLM := Lib.hid hlm
  have H0 : Hid (Below w.heap.size w w0 ∧ Laid w0 w.heap.size (.slice (some ⟨w.heap.size, 0, none⟩) (ts.map (·.1)).length ts.length) (ts.map (·.1)) 0) := by
    refine Lib.hid ⟨⟨hg.os, hg.tape, hg.output, hg.size, fun k hk => hg.block k hk (by simp)⟩, (madeCells (Value.int IntKind.i64 0).cells (ts.length * 1)).toList, ?_, ?_⟩
    · rw [hlm, ho.1]; omega
    · rw [hlm]; exact ho
  clear h hlm ho hg
  go_enter Tryd.func38, Tryd.ntmps38
  go_wp2
  go_loopg [11] ts.length (fun k s11 wr => ∃ i : Nat, i ≤ ts.length ∧ k = ts.length - i ∧ s11 = .int .i64 i ∧ Hid (Below w.heap.size w wr ∧ Laid wr w.heap.size (.slice (some ⟨w.heap.size, 0, none⟩) (ts.map (·.1)).length ts.length) (ts.map (·.1)) i))
  case atStart => exact ⟨0, Nat.zero_le _, rfl, rfl, Lib.hid H0.out⟩
  case round =>
    obtain ⟨i, hi, rfl, rfl, hbr⟩ := hrel
    by_cases hlt : i < ts.length
    · obtain ⟨g, hg, p0, p1⟩ := H.out i hlt
      subst hg
      have q0 : wr.cell? ⟨g, i * 2, none⟩ = some (.int .i64 ts[i].1) := (hbr.out.1.cell (p := ⟨g, i * 2, none⟩) (lt_cell p0)).trans p0
      have q1 : wr.cell? ⟨g, i * 2 + 1, none⟩ = some (.int .i64 ts[i].2) := (hbr.out.1.cell (p := ⟨g, i * 2 + 1, none⟩) (lt_cell p1)).trans p1
      obtain ⟨x, hx⟩ : ∃ x, x = ts[i].1 := ⟨_, rfl⟩
      have HX : Hid (x = (ts.map (·.1))[i]'(by rw [HLM.out]; exact hlt)) := Lib.hid (by rw [hx]; simp)
      rw [← hx] at q0
      generalize ts[i].2 = y at q1
      have hi0 : (0 : Int) ≤ (i : Int) := by omega
      have hil : (i : Int) < (ts.length : Int) := by omega
      have HN : Hid (Laid (wr.alloc (.cells #[.int .i64 x, .int .i64 y] 70)) w.heap.size (.slice (some ⟨w.heap.size, 0, none⟩) (ts.map (·.1)).length ts.length) (ts.map (·.1)) i) := Lib.hid (hbr.out.2.alloc _)
      have hcl : ((wr.alloc (.cells #[.int .i64 x, .int .i64 y] 70)).cell? ⟨w.heap.size, i, none⟩).isSome = true ∧ (wr.alloc (.cells #[.int .i64 x, .int .i64 y] 70)).frozen? ⟨w.heap.size, i, none⟩ = false := by
        obtain ⟨zs, hz, ho⟩ := HN.out
        rw [HLM.out] at ho hz
        refine ⟨?_, ho.frozenAt i⟩
        rw [ho.cellAt i (by omega), List.getElem?_eq_getElem (by rw [ho.1]; omega)]
        rfl
      obtain ⟨old, hold⟩ := Option.isSome_iff_exists.1 hcl.1
      have hfr := hcl.2
      have HBN : Hid (Below w.heap.size w (wr.alloc (.cells #[.int .i64 x, .int .i64 y] 70))) := Lib.hid (hbr.out.1.alloc hbr.out.1.size _)
      have k0 : (wr.alloc (.cells #[.int .i64 x, .int .i64 y] 70)).cell? ⟨wr.heap.size, 0, none⟩ = some (.int .i64 x) := by simp
      clear hcl p0 p1 hx
      go_wp2
      go_roundg (ts.length - (i + 1))
      case measure => omega
      case rel =>
        have h2 := Laid.next (by rw [HLM.out]; exact hlt) HN.out
        rw [← HX.out] at h2
        exact ⟨i + 1, by omega, rfl, congrArg _ (by omega), Lib.hid ⟨HBN.out.setCell (Nat.le_refl _) _, h2⟩⟩
    · have hil : (ts.length : Int) ≤ (i : Int) := by omega
      go_wp2
      go_ret
      have e : i = ts.length := by omega
      subst e
      refine ⟨w.heap.size, ?_, ?_, hbr.out.1⟩
      · rw [HLM.out]; rfl
      · have h2 := hbr.out.2
        rw [← HLM.out] at h2
        exact h2.done
end Go.Proofs.YtfefkkojdcipcaaDoor
