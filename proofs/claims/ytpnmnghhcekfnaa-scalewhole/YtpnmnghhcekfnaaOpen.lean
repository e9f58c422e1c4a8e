/- How a point that came in is opened: eight numbers. -/
import Derived.Test.YtpnmnghhcekfnaaRows
import Derived.Test.YtpnmnghhcekfnaaFirst
import Derived.ProofKit
import Derived.LaidMore
import Derived.OpenShut
import Derived.Deep.Slices
import Derived.Deep.Fields
import Derived.ChangeSame
namespace Go.Proofs.Ytpnmnghhcekfnaa
open Go.ChangeShapes Go.WideShapes Go.ChangeAt Go.WideMaps Go.WideElems Go.RowKit Go.Deep

theorem own : ownKnob Try.prog.godebug = none := by kernel_rfl
theorem cells3 : Try.prog.cellsOf 3 = 1 := by kernel_rfl
theorem cells23 : Try.prog.cellsOf 23 = 8 := by kernel_rfl
theorem laidOut : laidOutB Try.prog = true := by kernel_rfl

/-- a field that is a number. -/
theorem open_field {H : Type} {enc : TypeId × Value → H} {W : World} {fuel : Nat} {t : TypeId} {fs : Array Field} {cs : List Value} {x : DataW H × List MemPlace} (ht : Try.prog.underlying t = some (.struct fs))
    (h : DataW.trod enc Try.prog W 0 (fun _ => true) true fuel t cs = some x) (i : Nat) (f : Field) (hi : fs[i]? = some f) (h3 : f.type = 3) : ∃ z : Int, (cs.drop f.offset).take 1 = [.int .i64 z] := by
  obtain ⟨xs, n, _, _, _, hlen, hg⟩ := DataW.trod_struct ht h
  have hr := hg i f hi
  have hlt : i < xs.length := hlen ▸ (Array.getElem?_eq_some_iff.1 hi).1
  rw [List.getElem?_eq_getElem hlt, h3, cells3] at hr
  obtain ⟨z, hz, _⟩ := DataW.trod_int Try.underlying3 hr
  exact ⟨z, hz⟩
set_option maxRecDepth 100000 in
/-- A point that came in, opened. -/
theorem open_point {H : Type} {enc : TypeId × Value → H} {W : World} {base : Nat} {v : Value} {y : DataW H} {p : List MemPlace} (hok : Value.okWide Try.prog W .any base 23 v)
    (h : DataW.Trod enc Try.prog W 0 (fun _ => true) true 23 v y p) : ∃ k q l c d n e o : Int, v = .agg #[.int .i64 k, .int .i64 q, .int .i64 l, .int .i64 c, .int .i64 d, .int .i64 n, .int .i64 e, .int .i64 o] := by
  obtain ⟨cs, rfl, hsz⟩ := okWide_struct Try.underlying23 hok
  obtain ⟨vs⟩ := cs
  obtain ⟨fuel, hf⟩ := h
  match vs, hsz.trans cells23 with
  | [c0, c1, c2, c3, c4, c5, c6, c7], _ =>
    obtain ⟨k, e0⟩ := open_field Try.underlying23 hf 0 _ rfl rfl
    obtain ⟨q, e1⟩ := open_field Try.underlying23 hf 1 _ rfl rfl
    obtain ⟨l, e2⟩ := open_field Try.underlying23 hf 2 _ rfl rfl
    obtain ⟨c, e3⟩ := open_field Try.underlying23 hf 3 _ rfl rfl
    obtain ⟨d, e4⟩ := open_field Try.underlying23 hf 4 _ rfl rfl
    obtain ⟨n, e5⟩ := open_field Try.underlying23 hf 5 _ rfl rfl
    obtain ⟨e, e6⟩ := open_field Try.underlying23 hf 6 _ rfl rfl
    obtain ⟨o, e7⟩ := open_field Try.underlying23 hf 7 _ rfl rfl
    simp [Value.cells] at e0 e1 e2 e3 e4 e5 e6 e7
    subst e0 e1 e2 e3 e4 e5 e6 e7
    exact ⟨k, q, l, c, d, n, e, o, rfl⟩
end Go.Proofs.Ytpnmnghhcekfnaa
