/- Both sides of Encode and of Decode in one form: what they answer, and that yardsame.Err finds their errors alike. -/
import Derived.Test.YtngfaailbkadfaaDoorQ21
import Derived.Test.YtngfaailbkadfaaDoorQ11
import Derived.Test.YtngfaailbkadfaaDoorAny
namespace Go.Proofs.YtngfaailbkadfaaDoor
open Go.RowKit Go.Extern.Stop Go.Stop Go.Extern

theorem PErr.chain {w : World} {x c : Int} {v : Value} (h : PErr w x c v) : Chain w (.iface 32 (.int .i64 c)) [(sPdu, x)] v := by
  obtain ⟨b, rfl, h⟩ := h
  exact ⟨b, _, rfl, lt_heap h, by rw [cell_of_row _ _ _ _ _ _ h]; rfl, by rw [cell_of_row _ _ _ _ _ _ h]; rfl, by rw [cell_of_row _ _ _ _ _ _ h]; rfl, rfl⟩
/-- The program's error: none, or that one. -/
def EvIs (ok : Bool) (x c : Int) (w : World) (v : Value) : Prop := (ok = true ∧ v = .nilIface) ∨ (ok = false ∧ PErr w x c v)
/-- The document's. -/
def FvIs (ok : Bool) (x c : Int) (w : World) (fc : Int) (fs : Value) : Prop := (ok = true ∧ fc = 0 ∧ fs = .slice none 0 0) ∨ (ok = false ∧ fc = c ∧ StepsOwn w fs [(sPdu, x)])
theorem EvIs.on {ok : Bool} {x c : Int} {w w' : World} {v : Value} (h : EvIs ok x c w v) (hb : Below w.heap.size w w') : EvIs ok x c w' v := by
  rcases h with h | ⟨h1, h2⟩
  · exact .inl h
  · exact .inr ⟨h1, h2.on hb⟩
theorem FvIs.on {ok : Bool} {x c : Int} {w w' : World} {fc : Int} {fs : Value} (h : FvIs ok x c w fc fs) (hb : Below w.heap.size w w') : FvIs ok x c w' fc fs := by
  rcases h with h | ⟨h1, h2, h3⟩
  · exact .inl h
  · exact .inr ⟨h1, h2, h3.on hb⟩
theorem err_pair {ok : Bool} {x c : Int} {w : World} {v : Value} {fc : Int} {fs : Value} (hc : ok = false → c ≠ 0) (hg : ErrT w) (he : EvIs ok x c w v) (hf : FvIs ok x c w fc fs) : Calls Tryd.prog 15 #[v, .agg #[.int .i64 fc, fs]] w fun e w' => e = .returned (.bool true) ∧ Below w.heap.size w w' := by
  rcases he with ⟨h1, rfl⟩ | ⟨h1, h2⟩
  · rcases hf with ⟨_, rfl, rfl⟩ | ⟨h3, _⟩
    · exact same_none w hg
    · rw [h1] at h3; cases h3
  · rcases hf with ⟨h3, _⟩ | ⟨_, rfl, h4⟩
    · rw [h1] at h3; cases h3
    · exact same_some fc (hc h1) v fs [(sPdu, x)] w hg h2.chain h4 (by simp)
theorem row_slice2 {w : World} {B : Nat} {e : TypeId} {size : Nat} {v : Value} {n : Nat} {xs : List Value} (h : w.ownsRow B e size v n xs) : ∃ ao cap, v = .slice ao n cap := row_slice h

def encL (r : Rq) : List UInt8 := if r.may = true then encF r else []
theorem encCode_ne (r : Rq) : encCode r ≠ 0 := by unfold encCode; split <;> decide
theorem decCode_ne (d : List UInt8) : decCode d ≠ 0 := by
  unfold decCode
  split
  · decide
  · split <;> decide
theorem bytes_empty (w : World) : BytesAt w (.slice none 0 0) [] := ⟨none, 0, rfl, fun i hi => by simp at hi⟩
theorem enc_pair (r : Rq) (v : Value) (w : World) (hv : IntsAt w v r.vs) (hl : r.vs.length ≤ 3000) : Calls Tryd.prog 7 #[r.val v] w fun e w' => ∃ a n ev, e = .returned (.tuple #[.slice a (encL r).length n, ev]) ∧ BytesAt w' (.slice a (encL r).length n) (encL r) ∧ EvIs r.may r.f (encCode r) w' ev ∧ Below w.heap.size w w' := by
  unfold encL
  cases hm : r.may with
  | true =>
    refine (enc_ok r v w hv hm (by omega)).mono ?_
    rintro e w' ⟨u, rfl, ho, hb⟩
    obtain ⟨a, n, rfl⟩ := row_slice ho
    exact ⟨a, n, _, rfl, bytesAt_own ho, .inl ⟨rfl, rfl⟩, hb⟩
  | false =>
    refine (enc_no r v w hv hm (by omega)).mono ?_
    rintro e w' ⟨u, rfl, hx, hb⟩
    exact ⟨none, 0, u, rfl, bytes_empty _, .inr ⟨rfl, hx⟩, hb⟩
theorem renc_pair (r : Rq) (v : Value) (w : World) (hv : IntsAt w v r.vs) (hl : r.vs.length ≤ 3000) : Calls Tryd.prog 8 #[.agg #[.int .i64 r.f, .int .i64 r.s, .int .i64 r.c, v]] w fun e w' => ∃ a n fc fa fn fm, e = .returned (.tuple #[.slice a (encL r).length n, .agg #[.int .i64 fc, .slice fa fn fm]]) ∧ BytesAt w' (.slice a (encL r).length n) (encL r) ∧ FvIs r.may r.f (encCode r) w' fc (.slice fa fn fm) ∧ Below w.heap.size w w' := by
  unfold encL
  cases hm : r.may with
  | true =>
    refine (renc_ok r v w hv hm hl).mono ?_
    rintro e w' ⟨u, rfl, ho, hb⟩
    obtain ⟨a, n, rfl⟩ := row_slice ho
    exact ⟨a, n, 0, none, 0, 0, rfl, bytesAt_own ho, .inl ⟨rfl, rfl, rfl⟩, hb⟩
  | false =>
    refine (renc_no r v w hv hm (by omega)).mono ?_
    rintro e w' ⟨g, rfl, hs, hb⟩
    exact ⟨none, 0, _, _, _, _, rfl, bytes_empty _, .inr ⟨rfl, rfl, hs⟩, hb⟩
def decR (d : List UInt8) : Rq := if decB d = true then parseF d else ⟨0, 0, 0, []⟩
theorem ints_empty (w : World) : IntsAt w (.slice none 0 0) [] := ⟨none, 0, rfl, fun i hi => by simp at hi⟩
theorem decR_len (d : List UInt8) : (decR d).vs.length ≤ 100000 := by
  unfold decR
  split
  · rename_i h
    rw [← (dec_guess h).2.1]
    exact gF_len d
  · simp
theorem dec_pair (v : Value) (d : List UInt8) (w : World) (hv : BytesAt w v d) (hl : d.length ≤ 3000) : Calls Tryd.prog 10 #[v] w fun e w' => ∃ a n ev, e = .returned (.tuple #[(decR d).val (.slice a (decR d).vs.length n), ev]) ∧ IntsAt w' (.slice a (decR d).vs.length n) (decR d).vs ∧ EvIs (decB d) (rdN d 0 1).1 (decCode d) w' ev ∧ Below w.heap.size w w' := by
  unfold decR
  cases hm : decB d with
  | true =>
    refine (dec_ok v d w hv (by omega) hm).mono ?_
    rintro e w' ⟨u, rfl, ho, hb⟩
    obtain ⟨a, n, rfl⟩ := row_slice ho
    exact ⟨a, n, _, rfl, intsAt_own ho, .inl ⟨rfl, rfl⟩, hb⟩
  | false =>
    refine (dec_no v d w hv (by omega) hm).mono ?_
    rintro e w' ⟨u, rfl, hx, hb⟩
    exact ⟨none, 0, u, rfl, ints_empty _, .inr ⟨rfl, hx⟩, hb⟩
theorem rdec_pair (v : Value) (d : List UInt8) (w : World) (hv : BytesAt w v d) (hl : d.length ≤ 3000) (hcap : ∀ ao n cap, v = .slice ao n cap → n ≤ cap) : Calls Tryd.prog 11 #[v] w fun e w' => ∃ a n fc fa fn fm, e = .returned (.tuple #[(decR d).val (.slice a (decR d).vs.length n), .agg #[.int .i64 fc, .slice fa fn fm]]) ∧ IntsAt w' (.slice a (decR d).vs.length n) (decR d).vs ∧ FvIs (decB d) (rdN d 0 1).1 (decCode d) w' fc (.slice fa fn fm) ∧ Below w.heap.size w w' := by
  unfold decR
  cases hm : decB d with
  | true =>
    refine (rdec_ok v d w hv hl hcap hm).mono ?_
    rintro e w' ⟨u, rfl, ho, hb⟩
    obtain ⟨a, n, rfl⟩ := row_slice ho
    exact ⟨a, n, 0, none, 0, 0, rfl, intsAt_own ho, .inl ⟨rfl, rfl, rfl⟩, hb⟩
  | false =>
    refine (rdec_no v d w hv hl hcap hm).mono ?_
    rintro e w' ⟨g, rfl, hs, hb⟩
    exact ⟨none, 0, _, _, _, _, rfl, ints_empty _, .inr ⟨rfl, rfl, hs⟩, hb⟩
end Go.Proofs.YtngfaailbkadfaaDoor
