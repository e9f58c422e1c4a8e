/- A list of fields that came in, opened. -/
import Derived.Test.YtpdngcjgfngnjaaDoorLaid
import Derived.Test.YtpdngcjgfngnjaaDoorOps
namespace Go.Proofs.YtpdngcjgfngnjaaDoor
open Go.ChangeShapes Go.WideShapes Go.ChangeAt Go.WideMaps Go.WideElems Go.RowKit Go.Deep

theorem cells39 : Tryd.prog.cellsOf 39 = 4 := by kernel_rfl
theorem cells3 : Tryd.prog.cellsOf 3 = 1 := by kernel_rfl
theorem cells22 : Tryd.prog.cellsOf 22 = 1 := by kernel_rfl

set_option maxRecDepth 100000 in
theorem open_ops {H : Type} {enc : TypeId × Value → H} {W : World} {base : Nat} {v : Value} {d : DataW H} {p : List MemPlace} (hok : Value.okWide Tryd.prog W .any base 23 v)
    (h : DataW.Trod enc Tryd.prog W 0 (fun _ => true) true 23 v d p) : ∃ l, OpsAt W v l := by
  obtain ⟨a0, len0, cap0, rfl⟩ := okWide_slice Tryd.underlying23 hok
  obtain ⟨fuel, hf⟩ := h
  rcases open_slice Tryd.underlying23 hf with ⟨hcs, _⟩ | ⟨a, len, cap, m, n, D, Pl, hcs, _, hl, hm, hmm, _, hi⟩
  · simp [Value.cells] at hcs
    obtain ⟨rfl, rfl, rfl⟩ := hcs
    exact ⟨[], none, 0, rfl, fun o ho => by simp at ho, fun i hi => by simp at hi⟩
  · have hlm : len ≤ m := by simp at hmm; omega
    have hex : ∀ i, i < len → ∃ o : OpV, W.cell? (a.add (i * 4)) = some (.int .i64 o.kind) ∧ W.cell? (a.add (i * 4 + 1)) = some (.int .i64 o.n) ∧ W.cell? (a.add (i * 4 + 2)) = some (.int .i64 o.x) ∧ W.cell? (a.add (i * 4 + 3)) = some o.bv ∧ BytesAt W o.bv o.b := fun i hlt => by
      obtain ⟨cs', hc, ht'⟩ := hi i (by omega)
      rw [cells39] at hc
      obtain ⟨_, hcl, hat⟩ := World.cells?_some hc
      obtain ⟨xs, k, _, _, _, hxl, hfs⟩ := DataW.trod_struct Tryd.underlying39 ht'
      match xs, hxl, cs', hcl with
      | [y0, y1, y2, y3], _, [v0, v1, v2, v3], _ =>
        have g0 := hfs 0 _ rfl
        have g1 := hfs 1 _ rfl
        have g2 := hfs 2 _ rfl
        have g3 := hfs 3 _ rfl
        simp [cells3, cells22] at g0 g1 g2 g3
        have e0 := hat 0 (by omega)
        have e1 := hat 1 (by omega)
        have e2 := hat 2 (by omega)
        have e3 := hat 3 (by omega)
        rw [add_add] at e0 e1 e2 e3
        obtain ⟨k0, q0, _, _⟩ := DataW.trod_int Tryd.underlying3 g0
        obtain ⟨k1, q1, _, _⟩ := DataW.trod_int Tryd.underlying3 g1
        obtain ⟨k2, q2, _, _⟩ := DataW.trod_int Tryd.underlying3 g2
        simp at q0 q1 q2
        subst q0
        subst q1
        subst q2
        have hv3 : ∃ a n c, v3 = .slice a n c := by
          rcases open_ints Tryd.underlying22 Tryd.underlying5 cells5 g3 with ⟨h, _⟩ | ⟨_, _, _, _, h, _⟩
          · simp at h; exact ⟨_, _, _, h⟩
          · simp at h; exact ⟨_, _, _, h⟩
        obtain ⟨a3, n3, c3, rfl⟩ := hv3
        obtain ⟨l3, hl3, _⟩ := open_bytes ⟨a3, n3, c3, rfl⟩ g3
        exact ⟨⟨k0, k1, k2, .slice a3 n3 c3, l3⟩, by simpa using e0, by simpa using e1, by simpa using e2, by simpa using e3, hl3⟩
    have : Inhabited OpV := ⟨⟨0, 0, 0, .nilIface, []⟩⟩
    obtain ⟨f, hf'⟩ := choose_lt hex
    simp [Value.cells] at hcs
    obtain ⟨rfl, rfl, rfl⟩ := hcs
    have hll : ((List.range len0).map f).length = len0 := by simp
    refine ⟨(List.range len0).map f, some a, cap0, by rw [hll], fun o ho => ?_, fun i hlt => ?_⟩
    · obtain ⟨i, hi', rfl⟩ := List.mem_map.1 ho
      exact (hf' i (List.mem_range.1 hi')).2.2.2.2
    · rw [hll] at hlt
      have hfi := hf' i hlt
      obtain ⟨b, off, spot⟩ := a
      have hspot : spot = none := by simpa [Addr.add] using World.cell?_spot (hf' 0 (by omega)).1
      subst hspot
      simp only [add_at] at hfi
      obtain ⟨h0, h1, h2, h3, _⟩ := hfi
      refine ⟨b, off, rfl, ?_⟩
      simp only [List.getElem_map, List.getElem_range]
      exact ⟨h0, by rw [← h1]; congr 2, by rw [← h2]; congr 2, by rw [← h3]; congr 2⟩
end Go.Proofs.YtpdngcjgfngnjaaDoor
