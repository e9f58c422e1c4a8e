/- Bytes that came in, opened, with the bound that the form sets on what comes in. -/
import Derived.Test.YtpdngcjgfngnjaaDoorLaid
import Derived.SizedLaws
namespace Go.Proofs.YtpdngcjgfngnjaaDoor
open Go.ChangeShapes Go.WideShapes Go.ChangeAt Go.WideMaps Go.WideElems Go.RowKit Go.Deep

theorem bytes5 : Tryd.prog.bytesOf 5 = 1 := by kernel_rfl

set_option maxRecDepth 100000 in
theorem size_bytes_arg {H : Type} {enc : TypeId × Value → H} {W : World} {v : Value} {l : List UInt8} {d : DataW H} {p : List MemPlace} (hb : BytesAt W v l)
    (h : DataW.Trod enc Tryd.prog W 0 (fun _ => true) true 22 v d p) (hs : ∀ elems spare, d = .slice elems spare → (elems.length + spare.length) * Tryd.prog.bytesOf 5 ≤ reachBytes) : l.length ≤ 140737488355328 := by
  obtain ⟨ao, cap, rfl, _⟩ := hb
  obtain ⟨fuel, hf⟩ := h
  rcases open_ints Tryd.underlying22 Tryd.underlying5 cells5 hf with ⟨hcs, _⟩ | ⟨a, len, cap', zs, hcs, _, hl, hm, hlen, hx, _, _⟩
  · simp [Value.cells] at hcs
    rw [hcs.2.1]
    exact Nat.zero_le _
  · simp only [Prod.mk.injEq] at hx
    have h1 := hs _ _ hx.1
    rw [bytes5] at h1
    have h2 := reachBytes_lt
    simp [Value.cells] at hcs
    have hzl : len ≤ zs.length := by rw [hlen]; simpa using hl
    simp [lits] at h1
    obtain ⟨_, rfl, _⟩ := hcs
    omega
end Go.Proofs.YtpdngcjgfngnjaaDoor
