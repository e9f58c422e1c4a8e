/- Encode, Decode, Answer and Read, each as one contract: both ways. -/
import Derived.Test.YtngfaailbkadfaaDoorFirst
import Derived.Test.YtngfaailbkadfaaDoorSpec2
namespace Go.Proofs.YtngfaailbkadfaaDoor
open Go.RowKit Go.Extern.Stop Go.Stop Go.Extern
set_option maxRecDepth 100000

theorem BytesNo.form {w : World} {x c : Int} {e : Ending} {w' : World} (h : BytesNo w x c e w') : ∃ b : Nat, e = .returned (.tuple #[.slice none 0 0, .iface 113 (.pointer (some ⟨b, 0, none⟩))]) ∧ Below w.heap.size w w' := by
  obtain ⟨v, rfl, hp, hb⟩ := h
  obtain ⟨b, rfl⟩ := hp.form
  exact ⟨b, rfl, hb⟩
theorem BytesOk.form {w : World} {l : List UInt8} {e : Ending} {w' : World} (h : BytesOk w l e w') : ∃ ao cap, e = .returned (.tuple #[.slice ao l.length cap, .nilIface]) ∧ BytesAt w' (.slice ao l.length cap) l ∧ l.length ≤ cap ∧ Below w.heap.size w w' := by
  obtain ⟨x, rfl, hx, hb⟩ := h
  obtain ⟨a, c, rfl, _⟩ := bytesAt_own hx
  exact ⟨a, c, rfl, bytesAt_own hx, row_cap hx, hb⟩
theorem ReqNo.form {w : World} {x c : Int} {e : Ending} {w' : World} (h : ReqNo w x c e w') : ∃ b : Nat, e = .returned (.tuple #[Rq.zero, .iface 113 (.pointer (some ⟨b, 0, none⟩))]) ∧ Below w.heap.size w w' := by
  obtain ⟨v, rfl, hp, hb⟩ := h
  obtain ⟨b, rfl⟩ := hp.form
  exact ⟨b, rfl, hb⟩
theorem RepNo.form {w : World} {x c : Int} {e : Ending} {w' : World} (h : RepNo w x c e w') : ∃ b : Nat, e = .returned (.tuple #[Rp.zero, .iface 113 (.pointer (some ⟨b, 0, none⟩))]) ∧ Below w.heap.size w w' := by
  obtain ⟨v, rfl, hp, hb⟩ := h
  obtain ⟨b, rfl⟩ := hp.form
  exact ⟨b, rfl, hb⟩
/-- What bytes that no reply tells are refused with. -/
def readPlace (r : Rq) (b : List UInt8) : Int := if r.may = true then (rdN b 0 1).1 else r.f
def readCode (r : Rq) (b : List UInt8) : Int := if r.may = true then (if b = [] then 2 else if (rdN b 0 1).1 = r.f ∨ (rdN b 0 1).1 = r.f + 128 then 4 else 6) else 1
theorem read_no (r : Rq) (v vb : Value) (b : List UInt8) (w : World) (hv : IntsAt w v r.vs) (hy : BytesAt w vb b) (hl : r.vs.length ≤ 100000) (hlb : b.length ≤ 100000) (hd : (r.may && readB r b) = false) : Calls Tryd.prog 21 #[r.val v, vb] w (RepNo w (readPlace r b) (readCode r b)) := by
  unfold readPlace readCode
  cases hm : r.may with
  | false =>
    rw [if_neg (by simp), if_neg (by simp)]
    exact read_range r v vb b w hv hy hm hl hlb
  | true =>
    rw [hm, Bool.true_and] at hd
    rw [if_pos rfl, if_pos rfl]
    cases b with
    | nil =>
      rw [rdN_nil, if_pos rfl]
      exact read_nil r v vb w hv hy hm hl
    | cons y l =>
      rw [rdN_first, if_neg (by simp)]
      dsimp only
      by_cases hz : (y.toNat : Int) = r.f ∨ (y.toNat : Int) = r.f + 128
      · rw [if_pos hz]
        exact read_form r v vb y l w hv hy hm hl hlb hd hz
      · rw [if_neg hz]
        exact read_kind r v vb y l w hv hy hm hl hlb (fun h => hz (.inl h)) (fun h => hz (.inr h))
theorem read_yes (r : Rq) (v vb : Value) (b : List UInt8) (w : World) (hv : IntsAt w v r.vs) (hy : BytesAt w vb b) (hl : r.vs.length ≤ 100000) (hlb : b.length ≤ 100000) (hm : r.may = true) (hd : readB r b = true) : Calls Tryd.prog 21 #[r.val v, vb] w (RepOk w (parseR r b)) := by
  obtain ⟨y, l, rfl, hz⟩ := readB_first hm hd
  exact read_ok r v vb y l w hv hy hm hl hlb hd hz
end Go.Proofs.YtngfaailbkadfaaDoor
