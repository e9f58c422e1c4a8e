/- A list of calls (three numbers each) that lies somewhere in memory. -/
import Derived.Test.YtfefkkojdcipcaaDoorIds
namespace Go.Proofs.YtfefkkojdcipcaaDoor
open Go.RowKit Go.Extern.Stop Go.Stop Go.Extern

/-- yardlaw4.Op. -/
structure OpV where
  kind : Int
  n : Int
  a : Int
def OpsAt (w : World) (v : Value) (l : List OpV) : Prop :=
  ∃ ao cap, v = .slice ao l.length cap ∧ ∀ i (h : i < l.length), ∃ b off, ao = some ⟨b, off, none⟩ ∧ w.cell? ⟨b, off + i * 3, none⟩ = some (.int .i64 l[i].kind) ∧ w.cell? ⟨b, off + i * 3 + 1, none⟩ = some (.int .i64 l[i].n) ∧ w.cell? ⟨b, off + i * 3 + 2, none⟩ = some (.int .i64 l[i].a)
theorem OpsAt.on {w w' : World} {v : Value} {l : List OpV} (h : OpsAt w v l) (hb : Below w.heap.size w w') : OpsAt w' v l := by
  obtain ⟨ao, cap, hv, h⟩ := h
  refine ⟨ao, cap, hv, fun i hi => ?_⟩
  obtain ⟨b, off, ha, h0, h1, h2⟩ := h i hi
  exact ⟨b, off, ha, (hb.cell (p := ⟨b, off + i * 3, none⟩) (lt_cell h0)).trans h0, (hb.cell (p := ⟨b, off + i * 3 + 1, none⟩) (lt_cell h1)).trans h1, (hb.cell (p := ⟨b, off + i * 3 + 2, none⟩) (lt_cell h2)).trans h2⟩
/-- One call of the list, in every later world. -/
theorem OpsAt.each {w : World} {ao : Option Addr} {cap : Nat} {l : List OpV} (h : OpsAt w (.slice ao l.length cap) l) (i : Nat) (hi : i < l.length) : ∃ b off, ao = some ⟨b, off, none⟩ ∧
    ∀ W, Below w.heap.size w W → W.cell? ⟨b, off + i * 3, none⟩ = some (.int .i64 l[i].kind) ∧ W.cell? ⟨b, off + i * 3 + 1, none⟩ = some (.int .i64 l[i].n) ∧ W.cell? ⟨b, off + i * 3 + 2, none⟩ = some (.int .i64 l[i].a) := by
  obtain ⟨ao', cap', he, hc⟩ := h
  simp only [Value.slice.injEq] at he
  obtain ⟨rfl, _, rfl⟩ := he
  obtain ⟨b, off, ha, h0, h1, h2⟩ := hc i hi
  exact ⟨b, off, ha, fun W hb => ⟨(hb.cell (p := ⟨b, off + i * 3, none⟩) (lt_cell h0)).trans h0, (hb.cell (p := ⟨b, off + i * 3 + 1, none⟩) (lt_cell h1)).trans h1, (hb.cell (p := ⟨b, off + i * 3 + 2, none⟩) (lt_cell h2)).trans h2⟩⟩
/-- One number of a row, in every later world. -/
theorem IntsAt.each {w : World} {ao : Option Addr} {cap : Nat} {l : List Int} (h : IntsAt w (.slice ao l.length cap) l) (i : Nat) (hi : i < l.length) : ∃ b off, ao = some ⟨b, off, none⟩ ∧ ∀ W, Below w.heap.size w W → W.cell? ⟨b, off + i, none⟩ = some (.int .i64 l[i]) := by
  obtain ⟨ao', cap', he, hc⟩ := h
  simp only [Value.slice.injEq] at he
  obtain ⟨rfl, _, rfl⟩ := he
  obtain ⟨b, off, ha, h0⟩ := hc i hi
  exact ⟨b, off, ha, fun W hb => (hb.cell (p := ⟨b, off + i, none⟩) (lt_cell h0)).trans h0⟩
end Go.Proofs.YtfefkkojdcipcaaDoor
