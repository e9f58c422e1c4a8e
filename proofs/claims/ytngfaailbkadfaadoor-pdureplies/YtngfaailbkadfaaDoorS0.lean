/- Small things for the replies: both errors in one form, rows and boxes. -/
import Derived.Test.YtngfaailbkadfaaDoorAny
import Derived.Test.YtngfaailbkadfaaDoorQ13
import Derived.Test.YtngfaailbkadfaaDoorQ9
namespace Go.Proofs.YtngfaailbkadfaaDoor
open Go.RowKit Go.Extern.Stop Go.Stop Go.Extern

theorem PErr.chain {w : World} {x c : Int} {v : Value} (h : PErr w x c v) : Chain w (.iface 32 (.int .i64 c)) [(sPdu, x)] v := by
  obtain ⟨b, rfl, h⟩ := h
  exact ⟨b, _, rfl, lt_heap h, by rw [cell_of_row _ _ _ _ _ _ h]; rfl, by rw [cell_of_row _ _ _ _ _ _ h]; rfl, by rw [cell_of_row _ _ _ _ _ _ h]; rfl, rfl⟩
def EvIs (ok : Bool) (x c : Int) (w : World) (v : Value) : Prop := (ok = true ∧ v = .nilIface) ∨ (ok = false ∧ PErr w x c v)
def FvIs (ok : Bool) (x c : Int) (w : World) (fc : Int) (fs : Value) : Prop := (ok = true ∧ fc = 0 ∧ fs = .slice none 0 0) ∨ (ok = false ∧ fc = c ∧ StepsOwn w fs [(sPdu, x)])
theorem EvIs.on {ok : Bool} {x c : Int} {w w' : World} {v : Value} (h : EvIs ok x c w v) (hb : Below w.heap.size w w') : EvIs ok x c w' v := by
  rcases h with h | ⟨h1, h2⟩
  · exact .inl h
  · exact .inr ⟨h1, h2.on hb⟩
theorem FvIs.on {ok : Bool} {x c : Int} {w w' : World} {fc : Int} {fs : Value} (h : FvIs ok x c w fc fs) (hb : Below w.heap.size w w') : FvIs ok x c w' fc fs := by
  rcases h with h | ⟨h1, h2, h3⟩
  · exact .inl h
  · exact .inr ⟨h1, h2, h3.on hb⟩
theorem err_pair {ok : Bool} {x c : Int} {w : World} {v : Value} {fc : Int} {fs : Value} (hc : ok = false → c ≠ 0) (hg : ErrT w) (he : EvIs ok x c w v) (hf : FvIs ok x c w fc fs) : Calls Tryd.prog 15 #[v, .agg #[.int .i64 fc, fs]] w fun e w' => e = .returned (.bool true) ∧ Below w.heap.size w w' := by
  rcases he with ⟨h1, rfl⟩ | ⟨h1, h2⟩
  · rcases hf with ⟨_, rfl, rfl⟩ | ⟨h3, _⟩
    · exact same_none w hg
    · rw [h1] at h3; cases h3
  · rcases hf with ⟨h3, _⟩ | ⟨_, rfl, h4⟩
    · rw [h1] at h3; cases h3
    · exact same_some fc (hc h1) v fs [(sPdu, x)] w hg h2.chain h4 (by simp)
theorem bytes_empty (w : World) : BytesAt w (.slice none 0 0) [] := ⟨none, 0, rfl, fun i hi => by simp at hi⟩
theorem ints_empty (w : World) : IntsAt w (.slice none 0 0) [] := ⟨none, 0, rfl, fun i hi => by simp at hi⟩
theorem row_slice2 {w : World} {B : Nat} {e : TypeId} {size : Nat} {v : Value} {n : Nat} {xs : List Value} (h : w.ownsRow B e size v n xs) : ∃ ao cap, v = .slice ao n cap := row_slice h

def Fine (w : World) (e : Ending) (w' : World) : Prop := e = .returned (.bool true) ∧ Below w.heap.size w w'
theorem cells4' {w : World} {k : Nat} {a b c d : Value} {t : TypeId} (h : w.heap[k]? = some (.cells #[a, b, c, d] t (0, 0))) : w.cell? ⟨k, 0, none⟩ = some a ∧ w.cell? ⟨k, 1, none⟩ = some b ∧ w.cell? ⟨k, 2, none⟩ = some c ∧ w.cell? ⟨k, 3, none⟩ = some d :=
  ⟨by rw [cell_of_row _ _ _ _ _ _ h]; rfl, by rw [cell_of_row _ _ _ _ _ _ h]; rfl, by rw [cell_of_row _ _ _ _ _ _ h]; rfl, by rw [cell_of_row _ _ _ _ _ _ h]; rfl⟩
theorem cells2' {w : World} {k : Nat} {a b : Value} {t : TypeId} (h : w.heap[k]? = some (.cells #[a, b] t (0, 0))) : w.cell? ⟨k, 0, none⟩ = some a ∧ w.cell? ⟨k, 1, none⟩ = some b :=
  ⟨by rw [cell_of_row _ _ _ _ _ _ h]; rfl, by rw [cell_of_row _ _ _ _ _ _ h]; rfl⟩
theorem bytes_drop {w : World} {b off cap : Nat} {l : List UInt8} (h : BytesAt w (.slice (some ⟨b, off, none⟩) l.length cap) l) (n cap' : Nat) : BytesAt w (.slice (some ⟨b, off + n, none⟩) (l.length - n) cap') (l.drop n) := by
  obtain ⟨ao, c0, e, hc⟩ := h
  simp only [Value.slice.injEq] at e
  obtain ⟨rfl, _, rfl⟩ := e
  refine ⟨_, cap', by rw [List.length_drop], fun i hi => ?_⟩
  rw [List.length_drop] at hi
  obtain ⟨b', off', hb, hcell⟩ := hc (n + i) (by omega)
  simp only [Option.some.injEq, Addr.mk.injEq, and_true] at hb
  obtain ⟨rfl, rfl⟩ := hb
  exact ⟨b, off + n, rfl, by rw [List.getElem_drop, Nat.add_assoc]; exact hcell⟩
theorem row_no3 {w : World} {base : Nat} {v : Value} {n : Nat} {xs : List Value} (h : w.ownsRow base 3 1 v n xs) {r : Nat} {cs : Array Value} {t : TypeId} {fr : Nat × Nat} (hr : w.heap[r]? = some (.cells cs t fr)) (ht : t ≠ 3) : v.ownBlock ≠ some r := fun e => by
  rcases h.2 with ⟨hv, _⟩ | ⟨g, cap, cur, hv, _, hh, _⟩
  · rw [hv] at e; cases e
  · rw [hv] at e
    have : g = r := by simpa [Value.ownBlock] using e
    rw [this, hr] at hh
    simp only [Option.some.injEq, Obj.cells.injEq] at hh
    exact ht hh.2.1
theorem own_base3 {w : World} {b b' : Nat} {v : Value} {n : Nat} {xs : List Value} (h : w.ownsRow b' 3 1 v n xs) (hb : b ≤ b') : w.ownsRow b 3 1 v n xs := by
  obtain ⟨hl, h⟩ := h
  refine ⟨hl, ?_⟩
  rcases h with h | ⟨g, cap, cur, hv, hg, h⟩
  · exact .inl h
  · exact .inr ⟨g, cap, cur, hv, Nat.le_trans hb hg, h⟩

end Go.Proofs.YtngfaailbkadfaaDoor
