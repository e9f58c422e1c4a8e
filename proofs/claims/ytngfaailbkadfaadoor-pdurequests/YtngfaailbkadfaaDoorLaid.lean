/- What the rows' one listed variable gives a walk: the type handle that errors.As reads; and how numbers and lists of calls that came in are opened. -/
import Derived.Test.YtngfaailbkadfaaDoorRows
import Derived.Test.YtngfaailbkadfaaDoorQ23
import Derived.ProofKit
import Derived.LaidMore
import Derived.LaidHandle
import Derived.LaidLaws
import Derived.OpenShut
import Derived.Stop.Joined
import Derived.Stop.LaidErr
import Derived.Deep.Slices
import Derived.Deep.Fields
import Derived.Deep.SlicePairs
import Derived.ChangeSame
import Derived.Carry
namespace Go.Proofs.YtngfaailbkadfaaDoor
open Go.ChangeShapes Go.WideShapes Go.ChangeAt Go.WideMaps Go.WideElems Go.RowKit Go.Deep

theorem own : ownKnob Tryd.prog.godebug = none := by kernel_rfl
theorem gErr : Tryd.prog.globalNamed "errors.errorType" = some 0 := by kernel_rfl
theorem rtRow : (Tryd.prog.cutTypes.find? (·.1 == "internal/reflectlite.rtype")).map (·.2) = some 140 := by kernel_rfl
theorem types183 : Tryd.prog.types.size = 183 := by kernel_rfl
theorem oneRow : ((List.range 183).filter fun t => Tryd.prog.rowNamed t [101, 114, 114, 111, 114]) = [29] := by kernel_rfl
theorem laidOut : laidOutB Tryd.prog = true := by kernel_rfl

/-- The list of every row of this seat. -/
def laid1 : List (String × DataW Unit) := [("errors.errorType", Rows.laid_errors_errorType)]

theorem errT_of_laid {W : World} (h : laidMetH Tryd.prog laid1 W) : ErrT W := by
  have h' : laidMet Tryd.prog [] W ∧ handlesMet Tryd.prog [("errors.errorType", Rows.laid_errors_errorType)] W := h
  obtain ⟨name, u, ty, e1, e2, e3, e4, e5⟩ := h'.2 _ (List.mem_singleton.2 rfl)
  have en : name = [101, 114, 114, 111, 114] := (Option.some.inj e1).symm
  subst en
  obtain rfl := Option.some.inj (rtRow.symm.trans e2)
  have hm : ty ∈ (List.range 183).filter fun t => Tryd.prog.rowNamed t [101, 114, 114, 111, 114] := List.mem_filter.2 ⟨List.mem_range.2 (by rw [← types183]; exact e3), e4⟩
  rw [oneRow] at hm
  obtain rfl := List.mem_singleton.1 hm
  have hh : typeHandle Tryd.prog 29 = .pointer (some ⟨1, 29, none⟩) := by kernel_rfl
  rw [hh] at e5
  unfold ErrT
  simpa using World.var?_cell gErr e5 0

/-- The door's own heap meets the list. -/
theorem door_met (os : Os) (args : Array Value) : laidMetH Tryd.prog laid1 ((World.doorLaid Tryd.prog 8 os).forCall (fun _ _ => 0) ⟨#[], args, []⟩).memory :=
  laidMetH_of_parts3 (fuel := 8) (laidMet_of_run' 8 (by kernel_rfl) (by kernel_rfl)) (by kernel_rfl) (by kernel_rfl)


theorem oc_cells3 : Tryd.prog.cellsOf 3 = 1 := by kernel_rfl
theorem oc_cells5 : Tryd.prog.cellsOf 5 = 1 := by kernel_rfl
theorem oc_cells22 : Tryd.prog.cellsOf 22 = 1 := by kernel_rfl
theorem oc_cells24 : Tryd.prog.cellsOf 24 = 4 := by kernel_rfl
theorem oc_cells52 : Tryd.prog.cellsOf 52 = 2 := by kernel_rfl
theorem oc_sub {H : Type} {enc : TypeId × Value → H} {W : World} {fuel : Nat} {t : TypeId} {fs : Array Field} {cs : List Value} {x : DataW H × List MemPlace} (ht : Tryd.prog.underlying t = some (.struct fs))
    (h : DataW.trod enc Tryd.prog W 0 (fun _ => true) true fuel t cs = some x) (i : Nat) (f : Field) (hi : fs[i]? = some f) : ∃ n y, DataW.trod enc Tryd.prog W 0 (fun _ => true) true n f.type ((cs.drop f.offset).take (Tryd.prog.cellsOf f.type)) = some y := by
  obtain ⟨xs, n, _, _, _, hlen, hg⟩ := DataW.trod_struct ht h
  have hr := hg i f hi
  have hlt : i < xs.length := hlen ▸ (Array.getElem?_eq_some_iff.1 hi).1
  rw [List.getElem?_eq_getElem hlt] at hr
  exact ⟨n, _, hr⟩
theorem oc_field {H : Type} {enc : TypeId × Value → H} {W : World} {fuel : Nat} {t : TypeId} {fs : Array Field} {cs : List Value} {x : DataW H × List MemPlace} (ht : Tryd.prog.underlying t = some (.struct fs))
    (h : DataW.trod enc Tryd.prog W 0 (fun _ => true) true fuel t cs = some x) (i : Nat) (f : Field) (hi : fs[i]? = some f) (h3 : f.type = 3) : ∃ z : Int, (cs.drop f.offset).take 1 = [.int .i64 z] ∧ (Lit.int .i64 z).wf = true := by
  obtain ⟨n, y, hr⟩ := oc_sub ht h i f hi
  rw [h3, oc_cells3] at hr
  obtain ⟨z, hz, _, hw⟩ := DataW.trod_int Tryd.underlying3 hr
  exact ⟨z, hz, hw⟩
theorem oc_slice {H : Type} {enc : TypeId × Value → H} {W : World} {fuel : Nat} {t : TypeId} {fs : Array Field} {cs : List Value} {x : DataW H × List MemPlace} (ht : Tryd.prog.underlying t = some (.struct fs))
    (h : DataW.trod enc Tryd.prog W 0 (fun _ => true) true fuel t cs = some x) (i : Nat) (f : Field) (hi : fs[i]? = some f) (h3 : f.type = 22) : ∃ n y, DataW.trod enc Tryd.prog W 0 (fun _ => true) true n 22 ((cs.drop f.offset).take 1) = some y := by
  obtain ⟨n, y, hr⟩ := oc_sub ht h i f hi
  rw [h3, oc_cells22] at hr
  exact ⟨n, y, hr⟩
/-- Numbers that came in, with room for them. -/
theorem oc_ints {H : Type} {enc : TypeId × Value → H} {W : World} {fuel : Nat} {v : Value} {x : DataW H × List MemPlace} (hf : DataW.trod enc Tryd.prog W 0 (fun _ => true) true fuel 22 [v] = some x) : ∃ (ao : Option Addr) (cap : Nat) (l : List Int), v = .slice ao l.length cap ∧ IntsAt W (.slice ao l.length cap) l ∧ l.length ≤ cap := by
  rcases open_ints Tryd.underlying22 Tryd.underlying3 oc_cells3 hf with ⟨hcs, _⟩ | ⟨a, len, cap, zs, hcs, _, hl, _, hz, _, hc, _⟩
  · simp at hcs
    subst hcs
    exact ⟨none, 0, [], rfl, ⟨none, 0, rfl, fun i hi => by simp at hi⟩, Nat.le_refl _⟩
  · simp at hcs hz
    subst hcs
    have hlen : (zs.take len).length = len := by rw [List.length_take]; omega
    refine ⟨some a, cap, zs.take len, by rw [hlen], ⟨some a, cap, by rw [hlen], fun i hi => ?_⟩, by rw [hlen]; exact hl⟩
    have hlt2 : i < zs.length := by rw [hlen] at hi; omega
    have hk := hc i hlt2
    obtain ⟨b, off, spot⟩ := a
    have hspot : spot = none := by simpa [Addr.add] using World.cell?_spot (hc 0 (by omega))
    subst hspot
    rw [add_at] at hk
    refine ⟨b, off, rfl, hk.trans ?_⟩
    simp [List.getElem_take, List.getD, hlt2]
set_option maxRecDepth 100000 in
/-- A request that came in, opened. -/
theorem open_req {H : Type} {enc : TypeId × Value → H} {W : World} {base : Nat} {v : Value} {y : DataW H} {p : List MemPlace} (hok : Value.okWide Tryd.prog W .any base 24 v)
    (h : DataW.Trod enc Tryd.prog W 0 (fun _ => true) true 24 v y p) : ∃ (r : Rq) (u : Value), v = r.val u ∧ IntsAt W u r.vs := by
  obtain ⟨cs, rfl, hsz⟩ := okWide_struct Tryd.underlying24 hok
  obtain ⟨vs⟩ := cs
  obtain ⟨fuel, hf⟩ := h
  match vs, hsz.trans oc_cells24 with
  | [c0, c1, c2, c3], _ =>
    obtain ⟨z0, e0, _⟩ := oc_field Tryd.underlying24 hf 0 _ rfl rfl
    obtain ⟨z1, e1, _⟩ := oc_field Tryd.underlying24 hf 1 _ rfl rfl
    obtain ⟨z2, e2, _⟩ := oc_field Tryd.underlying24 hf 2 _ rfl rfl
    obtain ⟨n, y3, h3⟩ := oc_slice Tryd.underlying24 hf 3 _ rfl rfl
    simp [Value.cells] at e0 e1 e2 h3
    obtain ⟨ao, cap, l, e3, hi, _⟩ := oc_ints h3
    subst e0 e1 e2 e3
    exact ⟨⟨z0, z1, z2, l⟩, _, rfl, hi⟩
set_option maxRecDepth 100000 in
/-- A reply that came in, opened. -/
theorem open_rep {H : Type} {enc : TypeId × Value → H} {W : World} {base : Nat} {v : Value} {y : DataW H} {p : List MemPlace} (hok : Value.okWide Tryd.prog W .any base 52 v)
    (h : DataW.Trod enc Tryd.prog W 0 (fun _ => true) true 52 v y p) : ∃ (r : Rp) (ao : Option Addr) (cap : Nat), v = r.val (.slice ao r.vs.length cap) ∧ IntsAt W (.slice ao r.vs.length cap) r.vs ∧ r.vs.length ≤ cap := by
  obtain ⟨cs, rfl, hsz⟩ := okWide_struct Tryd.underlying52 hok
  obtain ⟨vs⟩ := cs
  obtain ⟨fuel, hf⟩ := h
  match vs, hsz.trans oc_cells52 with
  | [c0, c1], _ =>
    obtain ⟨z0, e0, _⟩ := oc_field Tryd.underlying52 hf 0 _ rfl rfl
    obtain ⟨n, y3, h3⟩ := oc_slice Tryd.underlying52 hf 1 _ rfl rfl
    simp [Value.cells] at e0 h3
    obtain ⟨ao, cap, l, e3, hi, hc⟩ := oc_ints h3
    subst e0 e3
    exact ⟨⟨z0, l⟩, _, _, rfl, hi, hc⟩
set_option maxRecDepth 100000 in
/-- Bytes that came in, opened. -/
theorem open_bytes {H : Type} {enc : TypeId × Value → H} {W : World} {fuel : Nat} {v : Value} {x : DataW H × List MemPlace} (hv : ∃ a n c, v = .slice a n c)
    (h : DataW.trod enc Tryd.prog W 0 (fun _ => true) true fuel 25 [v] = some x) : ∃ (l : List UInt8) (ao : Option Addr) (cap : Nat), v = .slice ao l.length cap ∧ BytesAt W (.slice ao l.length cap) l ∧ l.length ≤ maxLen ∧ l.length ≤ cap := by
  obtain ⟨a0, len0, cap0, rfl⟩ := hv
  rcases open_ints Tryd.underlying25 Tryd.underlying5 oc_cells5 h with ⟨hcs, _⟩ | ⟨a, len, cap, zs, hcs, _, hl, hm, hlen, _, hcell, hwf⟩
  · simp only [List.cons.injEq, Value.slice.injEq, and_true] at hcs
    obtain ⟨rfl, rfl, rfl⟩ := hcs
    exact ⟨[], none, 0, rfl, ⟨none, 0, rfl, fun i hi => by simp at hi⟩, Nat.zero_le _, Nat.le_refl _⟩
  · simp only [List.cons.injEq, Value.slice.injEq, and_true] at hcs
    obtain ⟨rfl, rfl, rfl⟩ := hcs
    have hzl : len0 ≤ zs.length := by rw [hlen]; simpa using hl
    have hll : ((zs.take len0).map fun z => UInt8.ofNat z.toNat).length = len0 := by simp; omega
    refine ⟨(zs.take len0).map fun z => UInt8.ofNat z.toNat, some a, cap0, by rw [hll], ⟨some a, cap0, rfl, fun i hi => ?_⟩, by rw [hll]; omega, by rw [hll]; omega⟩
    rw [hll] at hi
    have hc := hcell i (by omega)
    obtain ⟨b, off, spot⟩ := a
    have hspot : spot = none := by
      have := World.cell?_spot (hcell 0 (by omega))
      simpa [Addr.add] using this
    subst hspot
    rw [add_at] at hc
    refine ⟨b, off, rfl, ?_⟩
    have hz := bounds_u8 (hwf (zs[i]'(by omega)) (List.getElem_mem _))
    rw [hc]
    have hg : zs.getD i 0 = zs[i]'(by omega) := by simp [List.getD, List.getElem?_eq_getElem (show i < zs.length by omega)]
    simp only [List.getElem_map, List.getElem_take]
    rw [hg, UInt8.toNat_ofNat']
    congr 2
    omega

set_option maxRecDepth 100000 in
/-- .. as an argument. -/
theorem open_bytes_arg {H : Type} {enc : TypeId × Value → H} {W : World} {base : Nat} {v : Value} {d : DataW H} {p : List MemPlace} (hok : Value.okWide Tryd.prog W .any base 25 v)
    (h : DataW.Trod enc Tryd.prog W 0 (fun _ => true) true 25 v d p) : ∃ (l : List UInt8) (ao : Option Addr) (cap : Nat), v = .slice ao l.length cap ∧ BytesAt W (.slice ao l.length cap) l ∧ l.length ≤ maxLen ∧ l.length ≤ cap := by
  obtain ⟨a0, n0, c0, rfl⟩ := okWide_slice Tryd.underlying25 hok
  obtain ⟨fuel, hf⟩ := h
  exact open_bytes ⟨a0, n0, c0, rfl⟩ hf
end Go.Proofs.YtngfaailbkadfaaDoor
