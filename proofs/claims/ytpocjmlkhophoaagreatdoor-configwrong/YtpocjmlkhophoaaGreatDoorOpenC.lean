/- What the rows' listed variables give a walk: the type handle that errors.As reads, and strconv's table of powers of ten. -/
import Derived.Test.YtpocjmlkhophoaaGreatDoorRows
import Derived.Test.YtpocjmlkhophoaaGreatDoorText
import Derived.ProofKit
import Derived.LaidMore
import Derived.LaidHandle
import Derived.LaidLaws
import Derived.OpenShut
import Derived.Stop.Joined
import Derived.Stop.LaidErr
import Derived.Deep.SlicePairs
import Derived.Lib.LaidTab
import Derived.Test.YtpocjmlkhophoaaGreatDoorCfg
import Derived.Deep.Slices
import Derived.Deep.Fields
import Derived.ChangeSame
namespace Go.Proofs.YtpocjmlkhophoaaGreatDoor
open Go.ChangeShapes Go.WideShapes Go.ChangeAt Go.WideMaps Go.WideElems Go.RowKit Go.Deep

theorem own : ownKnob Tryz.prog.godebug = none := by kernel_rfl
theorem gErr : Tryz.prog.globalNamed "errors.errorType" = some 0 := by kernel_rfl
theorem rt200 : (Tryz.prog.cutTypes.find? (·.1 == "internal/reflectlite.rtype")).map (·.2) = some 200 := by kernel_rfl
theorem oneRow : ((List.range 261).filter fun t => Tryz.prog.rowNamed t [101, 114, 114, 111, 114]) = [39] := by kernel_rfl
theorem types261 : Tryz.prog.types.size = 261 := by kernel_rfl
theorem gPow : Tryz.prog.globalNamed "internal/strconv.uint64pow10" = some 1 := by kernel_rfl
theorem gPowType : (Tryz.prog.globals[1]?).map (·.type) = some 228 := by kernel_rfl
theorem cells222 : Tryz.prog.cellsOf 222 = 1 := by kernel_rfl
theorem cells228 : Tryz.prog.cellsOf 228 = 20 := by kernel_rfl
theorem laidOut : laidOutB Tryz.prog = true := by kernel_rfl

/-- The list of every row of this seat. -/
def laid4 : List (String × DataW Unit) := [("math/bits.deBruijn32tab", Rows.laid_math_bits_deBruijn32tab), ("math/bits.deBruijn64tab", Rows.laid_math_bits_deBruijn64tab), ("internal/strconv.uint64pow10", Rows.laid_internal_strconv_uint64pow10), ("errors.errorType", Rows.laid_errors_errorType)]

theorem pow_data : (Rows.laid_internal_strconv_uint64pow10 : DataW Unit) = Lib.tabData .u64 Lib.pow10Tab := by
  unfold Lib.tabData Lib.pow10Tab Rows.laid_internal_strconv_uint64pow10
  rfl

theorem ready_of_laid {W : World} (h : laidMetH Tryz.prog laid4 W) : Ready W := by
  have h' : laidMet Tryz.prog [("math/bits.deBruijn32tab", Rows.laid_math_bits_deBruijn32tab), ("math/bits.deBruijn64tab", Rows.laid_math_bits_deBruijn64tab), ("internal/strconv.uint64pow10", Rows.laid_internal_strconv_uint64pow10)] W ∧ handlesMet Tryz.prog [("errors.errorType", Rows.laid_errors_errorType)] W := h
  constructor
  · obtain ⟨name, u, ty, e1, e2, e3, e4, e5⟩ := h'.2 _ (List.mem_singleton.2 rfl)
    have en : name = [101, 114, 114, 111, 114] := (Option.some.inj e1).symm
    subst en
    obtain rfl := Option.some.inj (rt200.symm.trans e2)
    have hm : ty ∈ (List.range 261).filter fun t => Tryz.prog.rowNamed t [101, 114, 114, 111, 114] := List.mem_filter.2 ⟨List.mem_range.2 (by rw [← types261]; exact e3), e4⟩
    rw [oneRow] at hm
    obtain rfl := List.mem_singleton.1 hm
    have hh : typeHandle Tryz.prog 39 = .pointer (some ⟨4, 39, none⟩) := by kernel_rfl
    rw [hh] at e5
    unfold ErrT
    simpa using World.var?_cell gErr e5 0
  · have h3 := h'.1.tail.tail
    rw [pow_data] at h3
    exact Lib.tabIs_of_head (rest := []) gPow gPowType Tryz.underlying228 Tryz.underlying222 cells222 cells228 h3

/-- The door's own heap meets the list. -/
theorem door_met (os : Os) (args : Array Value) : laidMetH Tryz.prog laid4 ((World.doorLaid Tryz.prog 31 os).forCall (fun _ _ => 0) ⟨#[], args, []⟩).memory :=
  laidMetH_of_parts3 (fuel := 8) (laidMet_of_run' 8 (by kernel_rfl) (by kernel_rfl)) (by kernel_rfl) (by kernel_rfl)

theorem isInt_of_wf {n : Int} (h : (Lit.int .i64 n).wf = true) : IsInt n := by
  have := bounds_i64 h
  exact this
end Go.Proofs.YtpocjmlkhophoaaGreatDoor
/- How a configuration that came in is opened: its numbers and its four lists. -/
namespace Go.Proofs.YtpocjmlkhophoaaGreatDoor
open Go.ChangeShapes Go.WideShapes Go.ChangeAt Go.WideMaps Go.WideElems Go.RowKit Go.Deep

theorem oc_cells3 : Tryz.prog.cellsOf 3 = 1 := by kernel_rfl
theorem oc_cells4 : Tryz.prog.cellsOf 4 = 1 := by kernel_rfl
theorem oc_cells22 : Tryz.prog.cellsOf 22 = 3 := by kernel_rfl
theorem oc_cells23 : Tryz.prog.cellsOf 23 = 1 := by kernel_rfl
theorem oc_cells24 : Tryz.prog.cellsOf 24 = 1 := by kernel_rfl
theorem oc_cells25 : Tryz.prog.cellsOf 25 = 1 := by kernel_rfl
theorem oc_cells26 : Tryz.prog.cellsOf 26 = 1 := by kernel_rfl
theorem oc_cells28 : Tryz.prog.cellsOf 28 = 17 := by kernel_rfl
theorem oc_cells68 : Tryz.prog.cellsOf 68 = 5 := by kernel_rfl
theorem oc_cells62 : Tryz.prog.cellsOf 62 = 8 := by kernel_rfl
theorem oc_cells70 : Tryz.prog.cellsOf 70 = 3 := by kernel_rfl
theorem oc_add_at (b off n : Nat) : (⟨b, off, none⟩ : Addr).add n = ⟨b, off + n, none⟩ := by
  unfold Addr.add
  by_cases h : n = 0 <;> simp [h]
theorem oc_sub {H : Type} {enc : TypeId × Value → H} {W : World} {fuel : Nat} {t : TypeId} {fs : Array Field} {cs : List Value} {x : DataW H × List MemPlace} (ht : Tryz.prog.underlying t = some (.struct fs))
    (h : DataW.trod enc Tryz.prog W 0 (fun _ => true) true fuel t cs = some x) (i : Nat) (f : Field) (hi : fs[i]? = some f) : ∃ n y, DataW.trod enc Tryz.prog W 0 (fun _ => true) true n f.type ((cs.drop f.offset).take (Tryz.prog.cellsOf f.type)) = some y := by
  obtain ⟨xs, n, _, _, _, hlen, hg⟩ := DataW.trod_struct ht h
  have hr := hg i f hi
  have hlt : i < xs.length := hlen ▸ (Array.getElem?_eq_some_iff.1 hi).1
  rw [List.getElem?_eq_getElem hlt] at hr
  exact ⟨n, _, hr⟩
theorem oc_field {H : Type} {enc : TypeId × Value → H} {W : World} {fuel : Nat} {t : TypeId} {fs : Array Field} {cs : List Value} {x : DataW H × List MemPlace} (ht : Tryz.prog.underlying t = some (.struct fs))
    (h : DataW.trod enc Tryz.prog W 0 (fun _ => true) true fuel t cs = some x) (i : Nat) (f : Field) (hi : fs[i]? = some f) (h3 : f.type = 3) : ∃ z : Int, (cs.drop f.offset).take 1 = [.int .i64 z] ∧ (Lit.int .i64 z).wf = true := by
  obtain ⟨n, y, hr⟩ := oc_sub ht h i f hi
  rw [h3, oc_cells3] at hr
  obtain ⟨z, hz, _, hw⟩ := DataW.trod_int Tryz.underlying3 hr
  exact ⟨z, hz, hw⟩
theorem oc_arr {H : Type} {enc : TypeId × Value → H} {W : World} {fuel : Nat} {cs : List Value} {x : DataW H × List MemPlace} (h : DataW.trod enc Tryz.prog W 0 (fun _ => true) true fuel 22 cs = some x) (i : Nat) (hi : i < 3) : ∃ z : Int, (cs.drop i).take 1 = [.int .i64 z] ∧ (Lit.int .i64 z).wf = true := by
  obtain ⟨xs, m, _, _, _, hl, hh⟩ := DataW.trod_array Tryz.underlying22 h
  have hr := hh i hi
  rw [List.getElem?_eq_getElem (by omega), oc_cells3] at hr
  obtain ⟨z, hz, _, hw⟩ := DataW.trod_int Tryz.underlying3 hr
  exact ⟨z, by simpa using hz, hw⟩
theorem open_slaves {H : Type} {enc : TypeId × Value → H} {W : World} {fuel : Nat} {v : Value} {x : DataW H × List MemPlace} (hf : DataW.trod enc Tryz.prog W 0 (fun _ => true) true fuel 23 [v] = some x) : ∃ l : List Int, LiesAt W v l.length (icells l) := by
  rcases open_ints Tryz.underlying23 Tryz.underlying3 oc_cells3 hf with ⟨hcs, _⟩ | ⟨a, len, cap, zs, hcs, _, hl, _, hz, _, hc, _⟩
  · simp at hcs
    subst hcs
    exact ⟨[], none, 0, rfl, by simp, fun i u hu => by simp [icells] at hu⟩
  · simp at hcs hz
    subst hcs
    have hlen : (zs.take len).length = len := by rw [List.length_take]; omega
    refine ⟨zs.take len, some a, cap, by rw [hlen], by rw [hlen]; exact hl, fun i u hu => ?_⟩
    have hlt : i < (zs.take len).length := by simpa [icells_length] using (List.getElem?_eq_some_iff.1 hu).1
    rw [icells_get _ i hlt] at hu
    have hlt2 : i < zs.length := by rw [hlen] at hlt; omega
    have hk := hc i hlt2
    obtain ⟨b, off, spot⟩ := a
    have hspot : spot = none := by simpa [Addr.add] using World.cell?_spot (hc 0 (by omega))
    subst hspot
    rw [oc_add_at] at hk
    refine ⟨b, off, rfl, hk.trans ?_⟩
    rw [← hu]
    simp [List.getElem_take, List.getD, hlt2]
set_option maxRecDepth 100000 in
theorem open_polls {H : Type} {enc : TypeId × Value → H} {W : World} {fuel : Nat} {v : Value} {x : DataW H × List MemPlace} (hf : DataW.trod enc Tryz.prog W 0 (fun _ => true) true fuel 24 [v] = some x) : ∃ l : List Poll, LiesAt W v l.length (pollCells l) := by
  rcases open_slice Tryz.underlying24 hf with ⟨hcs, _⟩ | ⟨a, len, cap, m, n, D, Pl, hcs, _, hl, hm, hmm, _, hi⟩
  · simp at hcs
    subst hcs
    exact ⟨[], none, 0, rfl, by simp, fun i u hu => by simp [pollCells] at hu⟩
  · have hlm : len ≤ m := by simp at hmm; omega
    have hex : ∀ i, i < len → ∃ o : Poll, W.cell? (a.add (i * 5)) = some (.int .i64 o.slave) ∧ W.cell? (a.add (i * 5 + 1)) = some (.int .i64 o.func) ∧ W.cell? (a.add (i * 5 + 2)) = some (.int .i64 o.start) ∧ W.cell? (a.add (i * 5 + 3)) = some (.int .i64 o.count) ∧ W.cell? (a.add (i * 5 + 4)) = some (.int .i64 o.every) := fun i hlt => by
      obtain ⟨cs', hc, ht'⟩ := hi i (by omega)
      rw [oc_cells68] at hc
      obtain ⟨_, hcl, hat⟩ := World.cells?_some hc
      match cs', hcl with
      | [v0, v1, v2, v3, v4], _ =>
        obtain ⟨z0, q0, _⟩ := oc_field Tryz.underlying68 ht' 0 _ rfl rfl
        obtain ⟨z1, q1, _⟩ := oc_field Tryz.underlying68 ht' 1 _ rfl rfl
        obtain ⟨z2, q2, _⟩ := oc_field Tryz.underlying68 ht' 2 _ rfl rfl
        obtain ⟨z3, q3, _⟩ := oc_field Tryz.underlying68 ht' 3 _ rfl rfl
        obtain ⟨z4, q4, _⟩ := oc_field Tryz.underlying68 ht' 4 _ rfl rfl
        simp at q0 q1 q2 q3 q4
        subst q0
        subst q1
        subst q2
        subst q3
        subst q4
        have e0 := hat 0 (by omega)
        have e1 := hat 1 (by omega)
        have e2 := hat 2 (by omega)
        have e3 := hat 3 (by omega)
        have e4 := hat 4 (by omega)
        rw [add_add] at e0 e1 e2 e3 e4
        exact ⟨⟨z0, z1, z2, z3, z4⟩, by simpa using e0, by simpa using e1, by simpa using e2, by simpa using e3, by simpa using e4⟩
    have : Inhabited Poll := ⟨noPoll⟩
    obtain ⟨f, hf'⟩ := choose_lt hex
    simp at hcs
    subst hcs
    refine ⟨(List.range len).map f, some a, cap, by simp, by simpa using hl, fun idx u hu => ?_⟩
    have hlt : idx < len * 5 := by
      have := (List.getElem?_eq_some_iff.1 hu).1
      rw [pollCells_length] at this
      simpa using this
    obtain ⟨i, j, rfl, hj⟩ : ∃ i j, idx = i * 5 + j ∧ j < 5 := ⟨idx / 5, idx % 5, by omega, by omega⟩
    have hi' : i < len := by omega
    have hfi := hf' i hi'
    obtain ⟨b, off, spot⟩ := a
    have hspot : spot = none := by simpa [Addr.add] using World.cell?_spot (hf' 0 (by omega)).1
    subst hspot
    simp only [oc_add_at] at hfi
    obtain ⟨h0, h1, h2, h3, h4⟩ := hfi
    have hp := pollCells_get ((List.range len).map f) i (by simpa using hi')
    simp only [List.getElem_map, List.getElem_range] at hp
    obtain ⟨p0, p1, p2, p3, p4⟩ := hp
    refine ⟨b, off, rfl, ?_⟩
    have hj' : j = 0 ∨ j = 1 ∨ j = 2 ∨ j = 3 ∨ j = 4 := by omega
    rcases hj' with rfl | rfl | rfl | rfl | rfl
    · exact h0.trans (p0.symm.trans hu)
    · exact h1.trans (p1.symm.trans hu)
    · exact h2.trans (p2.symm.trans hu)
    · exact h3.trans (p3.symm.trans hu)
    · exact h4.trans (p4.symm.trans hu)
set_option maxRecDepth 100000 in
theorem open_points {H : Type} {enc : TypeId × Value → H} {W : World} {fuel : Nat} {v : Value} {x : DataW H × List MemPlace} (hf : DataW.trod enc Tryz.prog W 0 (fun _ => true) true fuel 25 [v] = some x) : ∃ l : List Pt, LiesAt W v l.length (ptCells l) := by
  rcases open_slice Tryz.underlying25 hf with ⟨hcs, _⟩ | ⟨a, len, cap, m, n, D, Pl, hcs, _, hl, hm, hmm, _, hi⟩
  · simp at hcs
    subst hcs
    exact ⟨[], none, 0, rfl, by simp, fun i u hu => by simp [ptCells] at hu⟩
  · have hlm : len ≤ m := by simp at hmm; omega
    have hex : ∀ i, i < len → ∃ o : Pt, W.cell? (a.add (i * 8)) = some (.int .i64 o.kind) ∧ W.cell? (a.add (i * 8 + 1)) = some (.int .i64 o.poll) ∧ W.cell? (a.add (i * 8 + 2)) = some (.int .i64 o.place) ∧ W.cell? (a.add (i * 8 + 3)) = some (.int .i64 o.cls) ∧ W.cell? (a.add (i * 8 + 4)) = some (.int .i64 o.dead) ∧ W.cell? (a.add (i * 8 + 5)) = some (.int .i64 o.num) ∧ W.cell? (a.add (i * 8 + 6)) = some (.int .i64 o.den) ∧ W.cell? (a.add (i * 8 + 7)) = some (.int .i64 o.off) := fun i hlt => by
      obtain ⟨cs', hc, ht'⟩ := hi i (by omega)
      rw [oc_cells62] at hc
      obtain ⟨_, hcl, hat⟩ := World.cells?_some hc
      match cs', hcl with
      | [v0, v1, v2, v3, v4, v5, v6, v7], _ =>
        obtain ⟨z0, q0, _⟩ := oc_field Tryz.underlying62 ht' 0 _ rfl rfl
        obtain ⟨z1, q1, _⟩ := oc_field Tryz.underlying62 ht' 1 _ rfl rfl
        obtain ⟨z2, q2, _⟩ := oc_field Tryz.underlying62 ht' 2 _ rfl rfl
        obtain ⟨z3, q3, _⟩ := oc_field Tryz.underlying62 ht' 3 _ rfl rfl
        obtain ⟨z4, q4, _⟩ := oc_field Tryz.underlying62 ht' 4 _ rfl rfl
        obtain ⟨z5, q5, _⟩ := oc_field Tryz.underlying62 ht' 5 _ rfl rfl
        obtain ⟨z6, q6, _⟩ := oc_field Tryz.underlying62 ht' 6 _ rfl rfl
        obtain ⟨z7, q7, _⟩ := oc_field Tryz.underlying62 ht' 7 _ rfl rfl
        simp at q0 q1 q2 q3 q4 q5 q6 q7
        subst q0
        subst q1
        subst q2
        subst q3
        subst q4
        subst q5
        subst q6
        subst q7
        have e0 := hat 0 (by omega)
        have e1 := hat 1 (by omega)
        have e2 := hat 2 (by omega)
        have e3 := hat 3 (by omega)
        have e4 := hat 4 (by omega)
        have e5 := hat 5 (by omega)
        have e6 := hat 6 (by omega)
        have e7 := hat 7 (by omega)
        rw [add_add] at e0 e1 e2 e3 e4 e5 e6 e7
        exact ⟨⟨z0, z1, z2, z3, z4, z5, z6, z7⟩, by simpa using e0, by simpa using e1, by simpa using e2, by simpa using e3, by simpa using e4, by simpa using e5, by simpa using e6, by simpa using e7⟩
    have : Inhabited Pt := ⟨noPt⟩
    obtain ⟨f, hf'⟩ := choose_lt hex
    simp at hcs
    subst hcs
    refine ⟨(List.range len).map f, some a, cap, by simp, by simpa using hl, fun idx u hu => ?_⟩
    have hlt : idx < len * 8 := by
      have := (List.getElem?_eq_some_iff.1 hu).1
      rw [ptCells_length] at this
      simpa using this
    obtain ⟨i, j, rfl, hj⟩ : ∃ i j, idx = i * 8 + j ∧ j < 8 := ⟨idx / 8, idx % 8, by omega, by omega⟩
    have hi' : i < len := by omega
    have hfi := hf' i hi'
    obtain ⟨b, off, spot⟩ := a
    have hspot : spot = none := by simpa [Addr.add] using World.cell?_spot (hf' 0 (by omega)).1
    subst hspot
    simp only [oc_add_at] at hfi
    obtain ⟨h0, h1, h2, h3, h4, h5, h6, h7⟩ := hfi
    have hp := ptCells_get ((List.range len).map f) i (by simpa using hi')
    simp only [List.getElem_map, List.getElem_range] at hp
    obtain ⟨p0, p1, p2, p3, p4, p5, p6, p7⟩ := hp
    refine ⟨b, off, rfl, ?_⟩
    have hj' : j = 0 ∨ j = 1 ∨ j = 2 ∨ j = 3 ∨ j = 4 ∨ j = 5 ∨ j = 6 ∨ j = 7 := by omega
    rcases hj' with rfl | rfl | rfl | rfl | rfl | rfl | rfl | rfl
    · exact h0.trans (p0.symm.trans hu)
    · exact h1.trans (p1.symm.trans hu)
    · exact h2.trans (p2.symm.trans hu)
    · exact h3.trans (p3.symm.trans hu)
    · exact h4.trans (p4.symm.trans hu)
    · exact h5.trans (p5.symm.trans hu)
    · exact h6.trans (p6.symm.trans hu)
    · exact h7.trans (p7.symm.trans hu)
set_option maxRecDepth 100000 in
theorem open_ctls {H : Type} {enc : TypeId × Value → H} {W : World} {fuel : Nat} {v : Value} {x : DataW H × List MemPlace} (hf : DataW.trod enc Tryz.prog W 0 (fun _ => true) true fuel 26 [v] = some x) : ∃ l : List Ctl, LiesAt W v l.length (ctlCells l) := by
  rcases open_slice Tryz.underlying26 hf with ⟨hcs, _⟩ | ⟨a, len, cap, m, n, D, Pl, hcs, _, hl, hm, hmm, _, hi⟩
  · simp at hcs
    subst hcs
    exact ⟨[], none, 0, rfl, by simp, fun i u hu => by simp [ctlCells] at hu⟩
  · have hlm : len ≤ m := by simp at hmm; omega
    have hex : ∀ i, i < len → ∃ o : Ctl, W.cell? (a.add (i * 3)) = some (.int .i64 o.kind) ∧ W.cell? (a.add (i * 3 + 1)) = some (.int .i64 o.slave) ∧ W.cell? (a.add (i * 3 + 2)) = some (.int .i64 o.reg) := fun i hlt => by
      obtain ⟨cs', hc, ht'⟩ := hi i (by omega)
      rw [oc_cells70] at hc
      obtain ⟨_, hcl, hat⟩ := World.cells?_some hc
      match cs', hcl with
      | [v0, v1, v2], _ =>
        obtain ⟨z0, q0, _⟩ := oc_field Tryz.underlying70 ht' 0 _ rfl rfl
        obtain ⟨z1, q1, _⟩ := oc_field Tryz.underlying70 ht' 1 _ rfl rfl
        obtain ⟨z2, q2, _⟩ := oc_field Tryz.underlying70 ht' 2 _ rfl rfl
        simp at q0 q1 q2
        subst q0
        subst q1
        subst q2
        have e0 := hat 0 (by omega)
        have e1 := hat 1 (by omega)
        have e2 := hat 2 (by omega)
        rw [add_add] at e0 e1 e2
        exact ⟨⟨z0, z1, z2⟩, by simpa using e0, by simpa using e1, by simpa using e2⟩
    have : Inhabited Ctl := ⟨noCtl⟩
    obtain ⟨f, hf'⟩ := choose_lt hex
    simp at hcs
    subst hcs
    refine ⟨(List.range len).map f, some a, cap, by simp, by simpa using hl, fun idx u hu => ?_⟩
    have hlt : idx < len * 3 := by
      have := (List.getElem?_eq_some_iff.1 hu).1
      rw [ctlCells_length] at this
      simpa using this
    obtain ⟨i, j, rfl, hj⟩ : ∃ i j, idx = i * 3 + j ∧ j < 3 := ⟨idx / 3, idx % 3, by omega, by omega⟩
    have hi' : i < len := by omega
    have hfi := hf' i hi'
    obtain ⟨b, off, spot⟩ := a
    have hspot : spot = none := by simpa [Addr.add] using World.cell?_spot (hf' 0 (by omega)).1
    subst hspot
    simp only [oc_add_at] at hfi
    obtain ⟨h0, h1, h2⟩ := hfi
    have hp := ctlCells_get ((List.range len).map f) i (by simpa using hi')
    simp only [List.getElem_map, List.getElem_range] at hp
    obtain ⟨p0, p1, p2⟩ := hp
    refine ⟨b, off, rfl, ?_⟩
    have hj' : j = 0 ∨ j = 1 ∨ j = 2 := by omega
    rcases hj' with rfl | rfl | rfl
    · exact h0.trans (p0.symm.trans hu)
    · exact h1.trans (p1.symm.trans hu)
    · exact h2.trans (p2.symm.trans hu)
set_option maxRecDepth 100000 in
/-- A configuration that came in, opened. -/
theorem open_cfg {H : Type} {enc : TypeId × Value → H} {W : World} {base : Nat} {v : Value} {y : DataW H} {p : List MemPlace} (hok : Value.okWide Tryz.prog W .any base 28 v)
    (h : DataW.Trod enc Tryz.prog W 0 (fun _ => true) true 28 v y p) : ∃ c sl po pt ct, v = cfgV c sl po pt ct ∧ ListsAt W c sl po pt ct ∧ (Lit.int .i64 c.own).wf = true ∧ (Lit.int .i64 c.confirm).wf = true ∧ (Lit.int .i64 c.r1).wf = true := by
  obtain ⟨cs, rfl, hsz⟩ := okWide_struct Tryz.underlying28 hok
  obtain ⟨vs⟩ := cs
  obtain ⟨fuel, hf⟩ := h
  match vs, hsz.trans oc_cells28 with
  | [c0, c1, c2, c3, c4, c5, c6, c7, c8, c9, c10, c11, c12, c13, c14, c15, c16], _ =>
    obtain ⟨z0, e0, w0⟩ := oc_field Tryz.underlying28 hf 0 _ rfl rfl
    obtain ⟨z1, e1, w1⟩ := oc_field Tryz.underlying28 hf 1 _ rfl rfl
    obtain ⟨z3, e3, w3⟩ := oc_field Tryz.underlying28 hf 3 _ rfl rfl
    obtain ⟨z4, e4, w4⟩ := oc_field Tryz.underlying28 hf 4 _ rfl rfl
    obtain ⟨z5, e5, w5⟩ := oc_field Tryz.underlying28 hf 5 _ rfl rfl
    obtain ⟨z6, e6, w6⟩ := oc_field Tryz.underlying28 hf 6 _ rfl rfl
    obtain ⟨z7, e7, w7⟩ := oc_field Tryz.underlying28 hf 7 _ rfl rfl
    obtain ⟨z8, e8, w8⟩ := oc_field Tryz.underlying28 hf 8 _ rfl rfl
    obtain ⟨z9, e9, w9⟩ := oc_field Tryz.underlying28 hf 9 _ rfl rfl
    obtain ⟨n2, y2, g2⟩ := oc_sub Tryz.underlying28 hf 2 _ rfl
    obtain ⟨z2, e2, _⟩ := DataW.trod_bool Tryz.underlying4 g2
    obtain ⟨n10, y10, g10⟩ := oc_sub Tryz.underlying28 hf 10 _ rfl
    obtain ⟨r0, e10, _⟩ := oc_arr g10 0 (by omega)
    obtain ⟨r1, e11, w11⟩ := oc_arr g10 1 (by omega)
    obtain ⟨r2, e12, _⟩ := oc_arr g10 2 (by omega)
    obtain ⟨n13, y13, g13⟩ := oc_sub Tryz.underlying28 hf 11 _ rfl
    obtain ⟨n14, y14, g14⟩ := oc_sub Tryz.underlying28 hf 12 _ rfl
    obtain ⟨n15, y15, g15⟩ := oc_sub Tryz.underlying28 hf 13 _ rfl
    obtain ⟨n16, y16, g16⟩ := oc_sub Tryz.underlying28 hf 14 _ rfl
    simp [Value.cells] at e0 e1 e3 e4 e5 e6 e7 e8 e9
    simp [Value.cells, oc_cells4] at e2
    simp [Value.cells, oc_cells22] at e10 e11 e12
    simp [Value.cells, oc_cells23] at g13
    simp [Value.cells, oc_cells24] at g14
    simp [Value.cells, oc_cells25] at g15
    simp [Value.cells, oc_cells26] at g16
    subst e0 e1 e2 e3 e4 e5 e6 e7 e8 e9 e10 e11 e12
    obtain ⟨l13, h13⟩ := open_slaves g13
    obtain ⟨l14, h14⟩ := open_polls g14
    obtain ⟨l15, h15⟩ := open_points g15
    obtain ⟨l16, h16⟩ := open_ctls g16
    exact ⟨⟨z0, z1, z2, z3, z4, z5, z6, z7, z8, z9, r0, r1, r2, l13, l14, l15, l16⟩, c13, c14, c15, c16, rfl, ⟨h13, h14, h15, h16⟩, w0, w8, w11⟩
end Go.Proofs.YtpocjmlkhophoaaGreatDoor
