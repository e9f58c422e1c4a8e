/- Both sides of Encode and of Decode in one form: what they answer, and that yardsame.Err finds their errors alike. -/
import Derived.Test.YtngfaailbkadfaaDoorQ21
import Derived.Test.YtngfaailbkadfaaDoorQ11
import Derived.Test.YtngfaailbkadfaaDoorAny
import Derived.Deep.RegionHeld3
namespace Go.Proofs.YtngfaailbkadfaaDoor
open Go.RowKit Go.Extern.Stop Go.Stop Go.Extern

theorem PErr.chain {w : World} {x c : Int} {v : Value} (h : PErr w x c v) : Chain w (.iface 32 (.int .i64 c)) [(sPdu, x)] v := by
  obtain ⟨b, rfl, h⟩ := h
  exact ⟨b, _, rfl, lt_heap h, by rw [cell_of_row _ _ _ _ _ _ h]; rfl, by rw [cell_of_row _ _ _ _ _ _ h]; rfl, by rw [cell_of_row _ _ _ _ _ _ h]; rfl, rfl⟩
/-- The program's error: none, or that one. -/
def EvIs (ok : Bool) (x c : Int) (w : World) (v : Value) : Prop := (ok = true ∧ v = .nilIface) ∨ (ok = false ∧ PErr w x c v)
/-- The document's. -/
def FvIs (ok : Bool) (x c : Int) (w : World) (fc : Int) (fs : Value) : Prop := (ok = true ∧ fc = 0 ∧ fs = .slice none 0 0) ∨ (ok = false ∧ fc = c ∧ StepsOwn w fs [(sPdu, x)])
theorem EvIs.on {ok : Bool} {x c : Int} {w w' : World} {v : Value} (h : EvIs ok x c w v) (hb : Below w.heap.size w w') : EvIs ok x c w' v := by
  rcases h with h | ⟨h1, h2⟩
  · exact .inl h
  · exact .inr ⟨h1, h2.on hb⟩
theorem FvIs.on {ok : Bool} {x c : Int} {w w' : World} {fc : Int} {fs : Value} (h : FvIs ok x c w fc fs) (hb : Below w.heap.size w w') : FvIs ok x c w' fc fs := by
  rcases h with h | ⟨h1, h2, h3⟩
  · exact .inl h
  · exact .inr ⟨h1, h2, h3.on hb⟩
theorem err_pair {ok : Bool} {x c : Int} {w : World} {v : Value} {fc : Int} {fs : Value} (hc : ok = false → c ≠ 0) (hg : ErrT w) (he : EvIs ok x c w v) (hf : FvIs ok x c w fc fs) : Calls Tryd.prog 15 #[v, .agg #[.int .i64 fc, fs]] w fun e w' => e = .returned (.bool true) ∧ Below w.heap.size w w' := by
  rcases he with ⟨h1, rfl⟩ | ⟨h1, h2⟩
  · rcases hf with ⟨_, rfl, rfl⟩ | ⟨h3, _⟩
    · exact same_none w hg
    · rw [h1] at h3; cases h3
  · rcases hf with ⟨h3, _⟩ | ⟨_, rfl, h4⟩
    · rw [h1] at h3; cases h3
    · exact same_some fc (hc h1) v fs [(sPdu, x)] w hg h2.chain h4 (by simp)
theorem row_slice2 {w : World} {B : Nat} {e : TypeId} {size : Nat} {v : Value} {n : Nat} {xs : List Value} (h : w.ownsRow B e size v n xs) : ∃ ao cap, v = .slice ao n cap := row_slice h

def encL (r : Rq) : List UInt8 := if r.may = true then encF r else []
theorem encCode_ne (r : Rq) : encCode r ≠ 0 := by unfold encCode; split <;> decide
theorem decCode_ne (d : List UInt8) : decCode d ≠ 0 := by
  unfold decCode
  split
  · decide
  · split <;> decide
theorem bytes_empty (w : World) : BytesAt w (.slice none 0 0) [] := ⟨none, 0, rfl, fun i hi => by simp at hi⟩
theorem enc_pair (r : Rq) (v : Value) (w : World) (hv : IntsAt w v r.vs) (hl : r.vs.length ≤ 3000) : Calls Tryd.prog 7 #[r.val v] w fun e w' => ∃ a n ev, e = .returned (.tuple #[.slice a (encL r).length n, ev]) ∧ BytesAt w' (.slice a (encL r).length n) (encL r) ∧ EvIs r.may r.f (encCode r) w' ev ∧ Below w.heap.size w w' := by
  unfold encL
  cases hm : r.may with
  | true =>
    refine (enc_ok r v w hv hm (by omega)).mono ?_
    rintro e w' ⟨u, rfl, ho, hb⟩
    obtain ⟨a, n, rfl⟩ := row_slice ho
    exact ⟨a, n, _, rfl, bytesAt_own ho, .inl ⟨rfl, rfl⟩, hb⟩
  | false =>
    refine (enc_no r v w hv hm (by omega)).mono ?_
    rintro e w' ⟨u, rfl, hx, hb⟩
    exact ⟨none, 0, u, rfl, bytes_empty _, .inr ⟨rfl, hx⟩, hb⟩
theorem renc_pair (r : Rq) (v : Value) (w : World) (hv : IntsAt w v r.vs) (hl : r.vs.length ≤ 3000) : Calls Tryd.prog 8 #[.agg #[.int .i64 r.f, .int .i64 r.s, .int .i64 r.c, v]] w fun e w' => ∃ a n fc fa fn fm, e = .returned (.tuple #[.slice a (encL r).length n, .agg #[.int .i64 fc, .slice fa fn fm]]) ∧ BytesAt w' (.slice a (encL r).length n) (encL r) ∧ FvIs r.may r.f (encCode r) w' fc (.slice fa fn fm) ∧ Below w.heap.size w w' := by
  unfold encL
  cases hm : r.may with
  | true =>
    refine (renc_ok r v w hv hm hl).mono ?_
    rintro e w' ⟨u, rfl, ho, hb⟩
    obtain ⟨a, n, rfl⟩ := row_slice ho
    exact ⟨a, n, 0, none, 0, 0, rfl, bytesAt_own ho, .inl ⟨rfl, rfl, rfl⟩, hb⟩
  | false =>
    refine (renc_no r v w hv hm (by omega)).mono ?_
    rintro e w' ⟨g, rfl, hs, hb⟩
    exact ⟨none, 0, _, _, _, _, rfl, bytes_empty _, .inr ⟨rfl, rfl, hs⟩, hb⟩
def decR (d : List UInt8) : Rq := if decB d = true then parseF d else ⟨0, 0, 0, []⟩
theorem ints_empty (w : World) : IntsAt w (.slice none 0 0) [] := ⟨none, 0, rfl, fun i hi => by simp at hi⟩
theorem decR_len (d : List UInt8) : (decR d).vs.length ≤ 100000 := by
  unfold decR
  split
  · rename_i h
    rw [← (dec_guess h).2.1]
    exact gF_len d
  · simp
theorem dec_pair (v : Value) (d : List UInt8) (w : World) (hv : BytesAt w v d) (hl : d.length ≤ 3000) : Calls Tryd.prog 10 #[v] w fun e w' => ∃ a n ev, e = .returned (.tuple #[(decR d).val (.slice a (decR d).vs.length n), ev]) ∧ IntsAt w' (.slice a (decR d).vs.length n) (decR d).vs ∧ EvIs (decB d) (rdN d 0 1).1 (decCode d) w' ev ∧ Below w.heap.size w w' := by
  unfold decR
  cases hm : decB d with
  | true =>
    refine (dec_ok v d w hv (by omega) hm).mono ?_
    rintro e w' ⟨u, rfl, ho, hb⟩
    obtain ⟨a, n, rfl⟩ := row_slice ho
    exact ⟨a, n, _, rfl, intsAt_own ho, .inl ⟨rfl, rfl⟩, hb⟩
  | false =>
    refine (dec_no v d w hv (by omega) hm).mono ?_
    rintro e w' ⟨u, rfl, hx, hb⟩
    exact ⟨none, 0, u, rfl, ints_empty _, .inr ⟨rfl, hx⟩, hb⟩
theorem rdec_pair (v : Value) (d : List UInt8) (w : World) (hv : BytesAt w v d) (hl : d.length ≤ 3000) (hcap : ∀ ao n cap, v = .slice ao n cap → n ≤ cap) : Calls Tryd.prog 11 #[v] w fun e w' => ∃ a n fc fa fn fm, e = .returned (.tuple #[(decR d).val (.slice a (decR d).vs.length n), .agg #[.int .i64 fc, .slice fa fn fm]]) ∧ IntsAt w' (.slice a (decR d).vs.length n) (decR d).vs ∧ FvIs (decB d) (rdN d 0 1).1 (decCode d) w' fc (.slice fa fn fm) ∧ Below w.heap.size w w' := by
  unfold decR
  cases hm : decB d with
  | true =>
    refine (rdec_ok v d w hv hl hcap hm).mono ?_
    rintro e w' ⟨u, rfl, ho, hb⟩
    obtain ⟨a, n, rfl⟩ := row_slice ho
    exact ⟨a, n, 0, none, 0, 0, rfl, intsAt_own ho, .inl ⟨rfl, rfl, rfl⟩, hb⟩
  | false =>
    refine (rdec_no v d w hv hl hcap hm).mono ?_
    rintro e w' ⟨g, rfl, hs, hb⟩
    exact ⟨none, 0, _, _, _, _, rfl, ints_empty _, .inr ⟨rfl, rfl, hs⟩, hb⟩
end Go.Proofs.YtngfaailbkadfaaDoor
/- yardlaw7.PduRequests answers true for every request and every row of bytes; older memory stands. -/
namespace Go.Proofs.YtngfaailbkadfaaDoor
open Go.RowKit Go.Extern.Stop Go.Stop Go.Extern

def Fine (w : World) (e : Ending) (w' : World) : Prop := e = .returned (.bool true) ∧ Below w.heap.size w w'
def Fine' := @Fine
/-- What the law's boxes hold: the request; the document's error; both decoded requests; the document's other error. -/
structure PB (w : World) (k2 k9 k10 k12 k13 : Nat) (f s c : Int) (u : Value) (fc : Int) (fs : Value) (mf ms mc : Int) (uq um : Value) (gc : Int) (gs : Value) : Prop where
  x2 : w.heap[k2]? = some (.cells #[.int .i64 f, .int .i64 s, .int .i64 c, u] 24 (0, 0))
  x9 : w.heap[k9]? = some (.cells #[.int .i64 fc, fs] 35 (0, 0))
  x10 : w.heap[k10]? = some (.cells #[.int .i64 mf, .int .i64 ms, .int .i64 mc, uq] 24 (0, 0))
  x12 : w.heap[k12]? = some (.cells #[.int .i64 mf, .int .i64 ms, .int .i64 mc, um] 38 (0, 0))
  x13 : w.heap[k13]? = some (.cells #[.int .i64 gc, gs] 35 (0, 0))
theorem PB.on {w w' : World} {k2 k9 k10 k12 k13 : Nat} {f s c : Int} {u : Value} {fc : Int} {fs : Value} {mf ms mc : Int} {uq um : Value} {gc : Int} {gs : Value} (h : PB w k2 k9 k10 k12 k13 f s c u fc fs mf ms mc uq um gc gs) (hb : Below w.heap.size w w') : PB w' k2 k9 k10 k12 k13 f s c u fc fs mf ms mc uq um gc gs :=
  ⟨(hb.block _ (lt_heap h.x2)).trans h.x2, (hb.block _ (lt_heap h.x9)).trans h.x9, (hb.block _ (lt_heap h.x10)).trans h.x10, (hb.block _ (lt_heap h.x12)).trans h.x12, (hb.block _ (lt_heap h.x13)).trans h.x13⟩
theorem cells4' {w : World} {k : Nat} {a b c d : Value} {t : TypeId} (h : w.heap[k]? = some (.cells #[a, b, c, d] t (0, 0))) : w.cell? ⟨k, 0, none⟩ = some a ∧ w.cell? ⟨k, 1, none⟩ = some b ∧ w.cell? ⟨k, 2, none⟩ = some c ∧ w.cell? ⟨k, 3, none⟩ = some d :=
  ⟨by rw [cell_of_row _ _ _ _ _ _ h]; rfl, by rw [cell_of_row _ _ _ _ _ _ h]; rfl, by rw [cell_of_row _ _ _ _ _ _ h]; rfl, by rw [cell_of_row _ _ _ _ _ _ h]; rfl⟩
theorem cells2' {w : World} {k : Nat} {a b : Value} {t : TypeId} (h : w.heap[k]? = some (.cells #[a, b] t (0, 0))) : w.cell? ⟨k, 0, none⟩ = some a ∧ w.cell? ⟨k, 1, none⟩ = some b :=
  ⟨by rw [cell_of_row _ _ _ _ _ _ h]; rfl, by rw [cell_of_row _ _ _ _ _ _ h]; rfl⟩
theorem PB.all {w : World} {k2 k9 k10 k12 k13 : Nat} {f s c : Int} {u : Value} {fc : Int} {fs : Value} {mf ms mc : Int} {uq um : Value} {gc : Int} {gs : Value} (h : PB w k2 k9 k10 k12 k13 f s c u fc fs mf ms mc uq um gc gs) : w.cell? ⟨k2, 0, none⟩ = some (.int .i64 f) ∧ w.cell? ⟨k2, 1, none⟩ = some (.int .i64 s) ∧ w.cell? ⟨k2, 2, none⟩ = some (.int .i64 c) ∧ w.cell? ⟨k2, 3, none⟩ = some (u) ∧ w.cell? ⟨k9, 0, none⟩ = some (.int .i64 fc) ∧ w.cell? ⟨k9, 1, none⟩ = some (fs) ∧ w.cell? ⟨k10, 0, none⟩ = some (.int .i64 mf) ∧ w.cell? ⟨k10, 1, none⟩ = some (.int .i64 ms) ∧ w.cell? ⟨k10, 2, none⟩ = some (.int .i64 mc) ∧ w.cell? ⟨k10, 3, none⟩ = some (uq) ∧ w.cell? ⟨k12, 0, none⟩ = some (.int .i64 mf) ∧ w.cell? ⟨k12, 1, none⟩ = some (.int .i64 ms) ∧ w.cell? ⟨k12, 2, none⟩ = some (.int .i64 mc) ∧ w.cell? ⟨k12, 3, none⟩ = some (um) ∧ w.cell? ⟨k13, 0, none⟩ = some (.int .i64 gc) ∧ w.cell? ⟨k13, 1, none⟩ = some (gs) := by
  obtain ⟨t0, t1, t2, t3⟩ := cells4' h.x2
  obtain ⟨a0, a1⟩ := cells2' h.x9
  obtain ⟨q0, q1, q2, q3⟩ := cells4' h.x10
  obtain ⟨p0, p1, p2, p3⟩ := cells4' h.x12
  obtain ⟨h0, h1⟩ := cells2' h.x13
  exact ⟨t0, t1, t2, t3, a0, a1, q0, q1, q2, q3, p0, p1, p2, p3, h0, h1⟩

set_option maxRecDepth 100000 in
set_option maxHeartbeats 8000000 in
theorem requests_in (f s c : Int) (vs : List Int) (ra : Option Addr) (rn : Nat) (d : List UInt8) (da : Option Addr) (dn : Nat) (w : World) (hg : ErrT w) (hv : IntsAt w (.slice ra vs.length rn) vs) (hd : BytesAt w (.slice da d.length dn) d) (hcap : d.length ≤ dn) (hl : vs.length ≤ 3000) (hld : d.length ≤ 3000) :
    Calls Tryd.prog 3 #[.agg #[.int .i64 f, .int .i64 s, .int .i64 c, .slice ra vs.length rn], .slice da d.length dn] w (Fine w) := by
  have HK : Hid (∀ W : World, Below w.heap.size w W → ErrT W) := Lib.hid fun W hb => hg.up hb
  have HV := Lib.hid hv
  have HD := Lib.hid hd
  have HCAP : Hid (∀ ao n cap, (Value.slice da d.length dn) = .slice ao n cap → n ≤ cap) := Lib.hid (fun ao n cap e => by
    simp only [Value.slice.injEq] at e
    omega)
  have hl' : (vs.length : Int) ≤ 3000 := by omega
  have hld' : (d.length : Int) ≤ 3000 := by omega
  have HL := Lib.hid (And.intro hl hld)
  obtain ⟨wx, hwx⟩ : ∃ wx, wx = w.alloc (.cells #[.int .i64 f, .int .i64 s, .int .i64 c, .slice ra vs.length rn] 24) := ⟨_, rfl⟩
  have X0 : Hid (Below w.heap.size w wx) := Lib.hid (by rw [hwx]; exact below_new _ _)
  have K2 : Hid (wx.heap[w.heap.size]? = some (.cells #[.int .i64 f, .int .i64 s, .int .i64 c, .slice ra vs.length rn] 24 (0, 0))) := Lib.hid (by rw [hwx]; exact heap_alloc_new w _)
  clear hv hd hcap hl hld hg
  go_enter Tryd.func3, Tryd.ntmps3
  go_wp2_with fail
  rw [← hwx]
  clear hwx
  refine (first_any _).mono ?_
  rintro e w1 ⟨rfl, hb⟩
  have X1 := Lib.hid (X0.out.trans (hb.mono X0.out.size))
  have K21 := Lib.hid ((hb.block _ (lt_heap K2.out)).trans K2.out)
  clear hb
  obtain ⟨c0, c1, c2, c3⟩ := cells4' K21.out
  go_wp2_with fail
  refine (copyi_any _ vs w1 (HV.out.on X1.out) (by have := HL.out; omega)).mono ?_
  rintro e w2 ⟨ui, rfl, hu, hb⟩
  have X2 := Lib.hid (X1.out.trans (hb.mono X1.out.size))
  have K22 := Lib.hid ((hb.block _ (lt_heap K21.out)).trans K21.out)
  have I2 := Lib.hid (intsAt_own hu)
  obtain ⟨ia, im, rfl⟩ := row_slice2 hu
  clear hb hu c0 c1 c2 c3
  obtain ⟨c0, c1, c2, c3⟩ := cells4' K22.out
  go_wp2_with fail
  refine (enc_pair ⟨f, s, c, vs⟩ _ w2 (HV.out.on X2.out) HL.out.1).mono ?_
  rintro e w3 ⟨xa, xn, ev, rfl, hx, hev, hb⟩
  have X3 := Lib.hid (X2.out.trans (hb.mono X2.out.size))
  have K23 := Lib.hid ((hb.block _ (lt_heap K22.out)).trans K22.out)
  have I3 := Lib.hid (I2.out.on hb)
  have E3 := Lib.hid (And.intro hx hev)
  clear hb hx hev c0 c1 c2 c3
  obtain ⟨c0, c1, c2, c3⟩ := cells4' K23.out
  go_wp2_with fail
  refine (plain_any f s c ra vs.length rn w3).mono ?_
  rintro e w4 ⟨rfl, hb⟩
  have X4 := Lib.hid (X3.out.trans (hb.mono X3.out.size))
  have K24 := Lib.hid ((hb.block _ (lt_heap K23.out)).trans K23.out)
  have I4 := Lib.hid (I3.out.on hb)
  have E4 := Lib.hid (And.intro (E3.out.1.on hb) (E3.out.2.on hb))
  clear hb c0 c1 c2 c3
  go_wp2_with fail
  refine (renc_pair ⟨f, s, c, vs⟩ _ w4 (HV.out.on X4.out) HL.out.1).mono ?_
  rintro e w5 ⟨ya, yn, fc, fa, fn, fm, rfl, hy, hfv, hb⟩
  have hnb := below_new w5 (.cells #[.int .i64 fc, .slice fa fn fm] 35)
  have hb2 := hb.trans (hnb.mono hb.size)
  have X6 := Lib.hid (X4.out.trans (hb2.mono X4.out.size))
  have K26 := Lib.hid ((hb2.block _ (lt_heap K24.out)).trans K24.out)
  have I6 := Lib.hid (I4.out.on hb2)
  have E6 := Lib.hid (And.intro (E4.out.1.on hb2) (E4.out.2.on hb2))
  have F6 := Lib.hid (And.intro (hy.on hnb) (hfv.on hnb))
  have K96 : Hid ((w5.alloc (.cells #[.int .i64 fc, .slice fa fn fm] 35)).heap[w5.heap.size]? = some (.cells #[.int .i64 fc, .slice fa fn fm] 35 (0, 0))) := Lib.hid (heap_alloc_new w5 _)
  clear hb hnb hb2 hy hfv
  go_wp2_with fail
  generalize w5.alloc (.cells #[.int .i64 fc, .slice fa fn fm] 35) = w6 at *
  generalize w5.heap.size = k9 at *
  refine (dec_pair _ d w6 (HD.out.on X6.out) HL.out.2).mono ?_
  rintro e w7 ⟨qa, qn, ge, rfl, hq, hgev, hb⟩
  have HDL := Lib.hid (decR_len d)
  have HRD := Lib.hid (fun (W : World) (h : BytesAt W (.slice da d.length dn) d) => rdec_pair _ d W h HL.out.2 HCAP.out)
  have HOK1 := Lib.hid (encCode_ne ⟨f, s, c, vs⟩)
  have HOK2 := Lib.hid (decCode_ne d)
  generalize decR d = m at *
  obtain ⟨mf, ms, mc, mv⟩ := m
  unfold Rq.val at HRD ⊢
  dsimp only at hq HDL HRD ⊢
  have hnb := below_new w7 (.cells #[.int .i64 mf, .int .i64 ms, .int .i64 mc, .slice qa mv.length qn] 24)
  have hb2 := hb.trans (hnb.mono hb.size)
  have X8 := Lib.hid (X6.out.trans (hb2.mono X6.out.size))
  have K28 := Lib.hid ((hb2.block _ (lt_heap K26.out)).trans K26.out)
  have K98 := Lib.hid ((hb2.block _ (lt_heap K96.out)).trans K96.out)
  have I8 := Lib.hid (I6.out.on hb2)
  have E8 := Lib.hid (And.intro (E6.out.1.on hb2) (E6.out.2.on hb2))
  have F8 := Lib.hid (And.intro (F6.out.1.on hb2) (F6.out.2.on hb2))
  have G8 := Lib.hid (And.intro (hq.on hnb) (hgev.on hnb))
  have K108 : Hid ((w7.alloc (.cells #[.int .i64 mf, .int .i64 ms, .int .i64 mc, .slice qa mv.length qn] 24)).heap[w7.heap.size]? = some (.cells #[.int .i64 mf, .int .i64 ms, .int .i64 mc, .slice qa mv.length qn] 24 (0, 0))) := Lib.hid (heap_alloc_new w7 _)
  clear hb hnb hb2 hq hgev
  go_wp2_with fail
  generalize w7.alloc (.cells #[.int .i64 mf, .int .i64 ms, .int .i64 mc, .slice qa mv.length qn] 24) = w8 at *
  generalize w7.heap.size = k10 at *
  refine (HRD.out w8 (HD.out.on X8.out)).mono ?_
  rintro e w9 ⟨pa, pn, gc, ga, gn, gm, rfl, hp, hgf, hb⟩
  have hn1 := below_new w9 (.cells #[.int .i64 mf, .int .i64 ms, .int .i64 mc, .slice pa mv.length pn] 38)
  have hn2 := below_new (w9.alloc (.cells #[.int .i64 mf, .int .i64 ms, .int .i64 mc, .slice pa mv.length pn] 38)) (.cells #[.int .i64 gc, .slice ga gn gm] 35)
  have hnb := hn1.trans (hn2.mono hn1.size)
  have hb2 := hb.trans (hnb.mono hb.size)
  have X11 := Lib.hid (X8.out.trans (hb2.mono X8.out.size))
  have I11 := Lib.hid (I8.out.on hb2)
  have E11 := Lib.hid (And.intro (E8.out.1.on hb2) (E8.out.2.on hb2))
  have F11 := Lib.hid (And.intro (F8.out.1.on hb2) (F8.out.2.on hb2))
  have G11 := Lib.hid (And.intro (G8.out.1.on hb2) (G8.out.2.on hb2))
  have H11 := Lib.hid (And.intro (hp.on hnb) (hgf.on hnb))
  have P11 : Hid (PB ((w9.alloc (.cells #[.int .i64 mf, .int .i64 ms, .int .i64 mc, .slice pa mv.length pn] 38)).alloc (.cells #[.int .i64 gc, .slice ga gn gm] 35)) w.heap.size k9 k10 w9.heap.size (w9.heap.size + 1) f s c (.slice ra vs.length rn) fc (.slice fa fn fm) mf ms mc (.slice qa mv.length qn) (.slice pa mv.length pn) gc (.slice ga gn gm)) := Lib.hid (by
    have h38 : (w9.alloc (.cells #[.int .i64 mf, .int .i64 ms, .int .i64 mc, .slice pa mv.length pn] 38)).heap[w9.heap.size]? = some (.cells #[.int .i64 mf, .int .i64 ms, .int .i64 mc, .slice pa mv.length pn] 38 (0, 0)) := heap_alloc_new w9 _
    refine ⟨(hb2.block _ (lt_heap K28.out)).trans K28.out, (hb2.block _ (lt_heap K98.out)).trans K98.out, (hb2.block _ (lt_heap K108.out)).trans K108.out, (hn2.block _ (lt_heap h38)).trans h38, ?_⟩
    have := heap_alloc_new (w9.alloc (.cells #[.int .i64 mf, .int .i64 ms, .int .i64 mc, .slice pa mv.length pn] 38)) (.cells #[.int .i64 gc, .slice ga gn gm] 35)
    simpa using this)
  clear hb hn1 hn2 hnb hb2 hp hgf
  generalize encL ⟨f, s, c, vs⟩ = L at *
  go_wp2_with fail
  generalize (w9.alloc (.cells #[.int .i64 mf, .int .i64 ms, .int .i64 mc, .slice pa mv.length pn] 38)).alloc (.cells #[.int .i64 gc, .slice ga gn gm] 35) = w11 at *
  generalize w9.heap.size = k12 at *
  have Cfirst : Hid (∀ W, Below w11.heap.size w11 W → Calls Tryd.prog 5 #[] W fun e w' => e = .returned (.bool true) ∧ Below W.heap.size W w') := Lib.hid (fun W _ => first_any W)
  have Cmay : Hid (∀ W, Below w11.heap.size w11 W → Calls Tryd.prog 12 #[.agg #[.int .i64 f, .int .i64 s, .int .i64 c, .slice ra vs.length rn]] W fun e w' => e = .returned (.bool (mayB f s c vs)) ∧ Below W.heap.size W w') := Lib.hid (fun W h => may_any f s c _ vs W (HV.out.on (X11.out.trans (h.mono X11.out.size))) (by have := HL.out; omega))
  have Cpl1 : Hid (∀ W, Below w11.heap.size w11 W → Calls Tryd.prog 9 #[.agg #[.int .i64 f, .int .i64 s, .int .i64 c, .slice ra vs.length rn]] W fun e w' => e = .returned (.agg #[.int .i64 f, .int .i64 s, .int .i64 c, .slice ra vs.length rn]) ∧ Below W.heap.size W w') := Lib.hid (fun W _ => plain_any f s c ra vs.length rn W)
  have Crmay : Hid (∀ W, Below w11.heap.size w11 W → Calls Tryd.prog 13 #[.agg #[.int .i64 f, .int .i64 s, .int .i64 c, .slice ra vs.length rn]] W fun e w' => e = .returned (.bool (mayB f s c vs)) ∧ Below W.heap.size W w') := Lib.hid (fun W h => rmay_any f s c _ vs W (HV.out.on (X11.out.trans (h.mono X11.out.size))) (by have := HL.out; omega))
  have Cbytes : Hid (∀ W, Below w11.heap.size w11 W → Calls Tryd.prog 14 #[.slice xa L.length xn, .slice ya L.length yn] W fun e w' => e = .returned (.bool true) ∧ Below W.heap.size W w') := Lib.hid (fun W h => (alike_any _ _ L L W (E11.out.1.on h) (F11.out.1.on h)).mono (fun e w' he => ⟨he.1.trans (by simp), he.2 ▸ Below.refl _ _⟩))
  have Cerr1 : Hid (∀ W, Below w11.heap.size w11 W → Calls Tryd.prog 15 #[ev, .agg #[.int .i64 fc, .slice fa fn fm]] W fun e w' => e = .returned (.bool true) ∧ Below W.heap.size W w') := Lib.hid (fun W h => err_pair (fun _ => HOK1.out) (HK.out W (X11.out.trans (h.mono X11.out.size))) (E11.out.2.on h) (F11.out.2.on h))
  have Cpl2 : Hid (∀ W, Below w11.heap.size w11 W → Calls Tryd.prog 9 #[.agg #[.int .i64 mf, .int .i64 ms, .int .i64 mc, .slice qa mv.length qn]] W fun e w' => e = .returned (.agg #[.int .i64 mf, .int .i64 ms, .int .i64 mc, .slice qa mv.length qn]) ∧ Below W.heap.size W w') := Lib.hid (fun W _ => plain_any mf ms mc qa mv.length qn W)
  have Csame : Hid (∀ W, Below w11.heap.size w11 W → Calls Tryd.prog 16 #[.agg #[.int .i64 mf, .int .i64 ms, .int .i64 mc, .slice qa mv.length qn], .agg #[.int .i64 mf, .int .i64 ms, .int .i64 mc, .slice pa mv.length pn]] W fun e w' => e = .returned (.bool true) ∧ Below W.heap.size W w') := Lib.hid (fun W h => (rsame_any ⟨mf, ms, mc, mv⟩ ⟨mf, ms, mc, mv⟩ _ _ W (G11.out.1.on h) (H11.out.1.on h) HDL.out).mono (fun e w' he => ⟨he.1.trans (by simp [sameB]), he.2⟩))
  have Cerr2 : Hid (∀ W, Below w11.heap.size w11 W → Calls Tryd.prog 15 #[ge, .agg #[.int .i64 gc, .slice ga gn gm]] W fun e w' => e = .returned (.bool true) ∧ Below W.heap.size W w') := Lib.hid (fun W h => err_pair (fun _ => HOK2.out) (HK.out W (X11.out.trans (h.mono X11.out.size))) (G11.out.2.on h) (H11.out.2.on h))
  have Cints : Hid (∀ W, Below w11.heap.size w11 W → Calls Tryd.prog 17 #[.slice ia vs.length im, .slice ra vs.length rn] W fun e w' => e = .returned (.bool true) ∧ Below W.heap.size W w') := Lib.hid (fun W h => (ints_any _ _ vs vs W (I11.out.on h) (HV.out.on (X11.out.trans (h.mono X11.out.size))) (by have := HL.out; omega)).mono (fun e w' he => ⟨he.1.trans (by simp), he.2⟩))
  generalize mayB f s c vs = mb at *
  have hmb : (mb == mb) = true := by simp
  have HXE : Hid (∀ W, Below w11.heap.size w11 W → Fine w (.returned (.bool true)) W) := Lib.hid (fun W h => ⟨rfl, X11.out.trans (h.mono X11.out.size)⟩)
  generalize w.heap.size = k2 at *
  generalize hk13 : k12 + 1 = k13 at *
  clear hk13
  have B0 : Hid (Below w11.heap.size w11 w11.drew) := Lib.hid ((Below.refl _ _).drew)
  have P0x := Lib.hid (P11.out.on B0.out)
  refine wp_region_held_drew (S := fun w' => Below w11.heap.size w11 w') (by kernel_rfl) B0.out (fun hHeld => ?_)
  refine wpAnyH_ready (rs := [0]) (by kernel_rfl) (by simp) ?_
  refine AllReadyH.cons (o := { dst := some 50, op := Op.call { callee := Callee.value (Operand.func 5), args := #[], argTypes := #[] }, type := 4, pos := "law.go:43", after := #[], guard := none }) rfl (fun K hK => ?_) AllReadyH.nil
  go_simp
  refine (Cfirst.out w11.drew B0.out).mono ?_; rintro e v1 ⟨rfl, hb⟩; have B1 := Lib.hid (B0.out.trans (hb.mono B0.out.size)); clear hb; simp only []
  refine hK.out _ _ B1.out (fun hHeld => ?_)
  clear hK K
  (try simp only [Act.put, List.setIfInBounds_toArray, List.set_cons_zero, List.set_cons_succ])
  refine wpAnyH_take (i := 1) (oi := { dst := some 51, op := Op.move (Operand.tmp 50), type := 4, pos := "law.go:43", after := #[{ on := 0, ground := Ground.data }, { on := 0, ground := Ground.chain }], guard := none }) (v := ?_) rfl (by kernel_rfl) (by kernel_rfl) (by kernel_rfl) (fun _ _ _ h => h) (Or.inl ⟨by rfl, ?_⟩) hHeld ?_
  rotate_left
  · (intro W hSw; (try dsimp only at hSw); go_simp; try with_reducible rfl)
  (try simp only [Act.put, List.setIfInBounds_toArray, List.set_cons_zero, List.set_cons_succ])
  refine wpAnyH_take (i := 2) (oi := { dst := some 52, op := Op.load 24 (Operand.tmp 2), type := 24, pos := "law.go:43", after := #[{ on := 1, ground := Ground.guard }], guard := some (1, true) }) (v := ?_) rfl (by kernel_rfl) (by kernel_rfl) (by kernel_rfl) (fun _ _ _ h => h) (Or.inl ⟨by rfl, ?_⟩) hHeld ?_
  rotate_left
  · (intro W hSw; (try dsimp only at hSw); obtain ⟨t0, t1, t2, t3⟩ := cells4' (P11.out.on hSw).x2; go_simp; try with_reducible rfl)
  (try simp only [Act.put, List.setIfInBounds_toArray, List.set_cons_zero, List.set_cons_succ])
  refine wpAnyH_take (i := 4) (oi := { dst := some 54, op := Op.load 24 (Operand.tmp 2), type := 24, pos := "law.go:43", after := #[{ on := 1, ground := Ground.guard }], guard := some (1, true) }) (v := ?_) rfl (by kernel_rfl) (by kernel_rfl) (by kernel_rfl) (fun _ _ _ h => h) (Or.inl ⟨by rfl, ?_⟩) hHeld ?_
  rotate_left
  · (intro W hSw; (try dsimp only at hSw); obtain ⟨t0, t1, t2, t3⟩ := cells4' (P11.out.on hSw).x2; go_simp; try with_reducible rfl)
  (try simp only [Act.put, List.setIfInBounds_toArray, List.set_cons_zero, List.set_cons_succ])
  refine wpAnyH_ready (rs := [3]) (by kernel_rfl) (by simp) ?_
  refine AllReadyH.cons (o := { dst := some 53, op := Op.call { callee := Callee.value (Operand.func 12), args := #[Operand.tmp 52], argTypes := #[24] }, type := 4, pos := "law.go:43", after := #[{ on := 2, ground := Ground.data }, { on := 1, ground := Ground.chain }, { on := 1, ground := Ground.guard }], guard := some (1, true) }) rfl (fun K hK => ?_) AllReadyH.nil
  go_simp
  refine (Cmay.out v1 B1.out).mono ?_; rintro e v2 ⟨rfl, hb⟩; have B2 := Lib.hid (B1.out.trans (hb.mono B1.out.size)); clear hb; simp only []
  refine hK.out _ _ B2.out (fun hHeld => ?_)
  clear hK K
  (try simp only [Act.put, List.setIfInBounds_toArray, List.set_cons_zero, List.set_cons_succ])
  refine wpAnyH_ready (rs := [5]) (by kernel_rfl) (by simp) ?_
  refine AllReadyH.cons (o := { dst := some 55, op := Op.call { callee := Callee.value (Operand.func 9), args := #[Operand.tmp 54], argTypes := #[24] }, type := 38, pos := "law.go:43", after := #[{ on := 4, ground := Ground.data }, { on := 3, ground := Ground.chain }, { on := 1, ground := Ground.guard }], guard := some (1, true) }) rfl (fun K hK => ?_) AllReadyH.nil
  go_simp
  refine (Cpl1.out v2 B2.out).mono ?_; rintro e v3 ⟨rfl, hb⟩; have B3 := Lib.hid (B2.out.trans (hb.mono B2.out.size)); clear hb; simp only []
  refine hK.out _ _ B3.out (fun hHeld => ?_)
  clear hK K
  (try simp only [Act.put, List.setIfInBounds_toArray, List.set_cons_zero, List.set_cons_succ])
  refine wpAnyH_ready (rs := [6]) (by kernel_rfl) (by simp) ?_
  refine AllReadyH.cons (o := { dst := some 56, op := Op.call { callee := Callee.value (Operand.func 13), args := #[Operand.tmp 55], argTypes := #[38] }, type := 4, pos := "law.go:43", after := #[{ on := 5, ground := Ground.data }, { on := 5, ground := Ground.chain }, { on := 1, ground := Ground.guard }], guard := some (1, true) }) rfl (fun K hK => ?_) AllReadyH.nil
  go_simp
  refine (Crmay.out v3 B3.out).mono ?_; rintro e v4 ⟨rfl, hb⟩; have B4 := Lib.hid (B3.out.trans (hb.mono B3.out.size)); clear hb; simp only []
  refine hK.out _ _ B4.out (fun hHeld => ?_)
  clear hK K
  (try simp only [Act.put, List.setIfInBounds_toArray, List.set_cons_zero, List.set_cons_succ])
  refine wpAnyH_take (i := 7) (oi := { dst := some 57, op := Op.binOp BinOp.eql 4 (Operand.tmp 53) (Operand.tmp 56) 4, type := 4, pos := "law.go:43", after := #[{ on := 3, ground := Ground.data }, { on := 6, ground := Ground.data }, { on := 1, ground := Ground.guard }], guard := some (1, true) }) (v := ?_) rfl (by kernel_rfl) (by kernel_rfl) (by kernel_rfl) (fun _ _ _ h => h) (Or.inl ⟨by rfl, ?_⟩) hHeld ?_
  rotate_left
  · (intro W hSw; (try dsimp only at hSw); go_simp; try with_reducible rfl)
  (try simp only [Act.put, List.setIfInBounds_toArray, List.set_cons_zero, List.set_cons_succ])
  refine wpAnyH_take (i := 8) (oi := { dst := some 58, op := Op.pick (Operand.tmp 51) (Operand.tmp 57) (Operand.const (Value.bool false)), type := 4, pos := "law.go:43", after := #[{ on := 1, ground := Ground.data }, { on := 7, ground := Ground.data }], guard := none }) (v := ?_) rfl (by kernel_rfl) (by kernel_rfl) (by kernel_rfl) (fun _ _ _ h => h) (Or.inl ⟨by rfl, ?_⟩) hHeld ?_
  rotate_left
  · (intro W hSw; (try dsimp only at hSw); go_simp; try with_reducible rfl)
  (try simp only [Act.put, List.setIfInBounds_toArray, List.set_cons_zero, List.set_cons_succ])
  refine wpAnyH_take (i := 9) (oi := { dst := some 59, op := Op.move (Operand.tmp 58), type := 4, pos := "law.go:43", after := #[{ on := 8, ground := Ground.data }, { on := 6, ground := Ground.chain }], guard := none }) (v := ?_) rfl (by kernel_rfl) (by kernel_rfl) (by kernel_rfl) (fun _ _ _ h => h) (Or.inl ⟨by rfl, ?_⟩) hHeld ?_
  rotate_left
  · (intro W hSw; (try dsimp only at hSw); go_simp; try with_reducible rfl)
  (try simp only [Act.put, List.setIfInBounds_toArray, List.set_cons_zero, List.set_cons_succ])
  refine wpAnyH_take (i := 10) (oi := { dst := some 60, op := Op.move (Operand.tmp 6), type := 25, pos := "law.go:43", after := #[{ on := 9, ground := Ground.guard }], guard := some (9, true) }) (v := ?_) rfl (by kernel_rfl) (by kernel_rfl) (by kernel_rfl) (fun _ _ _ h => h) (Or.inl ⟨by rfl, ?_⟩) hHeld ?_
  rotate_left
  · (intro W hSw; (try dsimp only at hSw); go_simp; try with_reducible rfl)
  (try simp only [Act.put, List.setIfInBounds_toArray, List.set_cons_zero, List.set_cons_succ])
  refine wpAnyH_take (i := 11) (oi := { dst := some 61, op := Op.move (Operand.tmp 8), type := 25, pos := "law.go:43", after := #[{ on := 9, ground := Ground.guard }], guard := some (9, true) }) (v := ?_) rfl (by kernel_rfl) (by kernel_rfl) (by kernel_rfl) (fun _ _ _ h => h) (Or.inl ⟨by rfl, ?_⟩) hHeld ?_
  rotate_left
  · (intro W hSw; (try dsimp only at hSw); go_simp; try with_reducible rfl)
  (try simp only [Act.put, List.setIfInBounds_toArray, List.set_cons_zero, List.set_cons_succ])
  refine wpAnyH_ready (rs := [12]) (by kernel_rfl) (by simp) ?_
  refine AllReadyH.cons (o := { dst := some 62, op := Op.call { callee := Callee.value (Operand.func 14), args := #[Operand.tmp 60, Operand.tmp 61], argTypes := #[25, 25] }, type := 4, pos := "law.go:43", after := #[{ on := 10, ground := Ground.data }, { on := 11, ground := Ground.data }, { on := 9, ground := Ground.chain }, { on := 9, ground := Ground.guard }], guard := some (9, true) }) rfl (fun K hK => ?_) AllReadyH.nil
  go_simp
  refine (Cbytes.out v4 B4.out).mono ?_; rintro e v5 ⟨rfl, hb⟩; have B5 := Lib.hid (B4.out.trans (hb.mono B4.out.size)); clear hb; simp only []
  refine hK.out _ _ B5.out (fun hHeld => ?_)
  clear hK K
  (try simp only [Act.put, List.setIfInBounds_toArray, List.set_cons_zero, List.set_cons_succ])
  refine wpAnyH_take (i := 13) (oi := { dst := some 63, op := Op.pick (Operand.tmp 59) (Operand.tmp 62) (Operand.const (Value.bool false)), type := 4, pos := "law.go:43", after := #[{ on := 9, ground := Ground.data }, { on := 12, ground := Ground.data }], guard := none }) (v := ?_) rfl (by kernel_rfl) (by kernel_rfl) (by kernel_rfl) (fun _ _ _ h => h) (Or.inl ⟨by rfl, ?_⟩) hHeld ?_
  rotate_left
  · (intro W hSw; (try dsimp only at hSw); go_simp; try with_reducible rfl)
  (try simp only [Act.put, List.setIfInBounds_toArray, List.set_cons_zero, List.set_cons_succ])
  refine wpAnyH_take (i := 14) (oi := { dst := some 64, op := Op.move (Operand.tmp 63), type := 4, pos := "law.go:43", after := #[{ on := 13, ground := Ground.data }, { on := 12, ground := Ground.chain }], guard := none }) (v := ?_) rfl (by kernel_rfl) (by kernel_rfl) (by kernel_rfl) (fun _ _ _ h => h) (Or.inl ⟨by rfl, ?_⟩) hHeld ?_
  rotate_left
  · (intro W hSw; (try dsimp only at hSw); go_simp; try with_reducible rfl)
  (try simp only [Act.put, List.setIfInBounds_toArray, List.set_cons_zero, List.set_cons_succ])
  refine wpAnyH_take (i := 15) (oi := { dst := some 65, op := Op.move (Operand.tmp 7), type := 29, pos := "law.go:43", after := #[{ on := 14, ground := Ground.guard }], guard := some (14, true) }) (v := ?_) rfl (by kernel_rfl) (by kernel_rfl) (by kernel_rfl) (fun _ _ _ h => h) (Or.inl ⟨by rfl, ?_⟩) hHeld ?_
  rotate_left
  · (intro W hSw; (try dsimp only at hSw); go_simp; try with_reducible rfl)
  (try simp only [Act.put, List.setIfInBounds_toArray, List.set_cons_zero, List.set_cons_succ])
  refine wpAnyH_take (i := 16) (oi := { dst := some 66, op := Op.load 35 (Operand.tmp 9), type := 35, pos := "law.go:43", after := #[{ on := 14, ground := Ground.guard }], guard := some (14, true) }) (v := ?_) rfl (by kernel_rfl) (by kernel_rfl) (by kernel_rfl) (fun _ _ _ h => h) (Or.inl ⟨by rfl, ?_⟩) hHeld ?_
  rotate_left
  · (intro W hSw; (try dsimp only at hSw); obtain ⟨t0, t1⟩ := cells2' (P11.out.on hSw).x9; go_simp; try with_reducible rfl)
  (try simp only [Act.put, List.setIfInBounds_toArray, List.set_cons_zero, List.set_cons_succ])
  refine wpAnyH_ready (rs := [17]) (by kernel_rfl) (by simp) ?_
  refine AllReadyH.cons (o := { dst := some 67, op := Op.call { callee := Callee.value (Operand.func 15), args := #[Operand.tmp 65, Operand.tmp 66], argTypes := #[29, 35] }, type := 4, pos := "law.go:43", after := #[{ on := 15, ground := Ground.data }, { on := 16, ground := Ground.data }, { on := 14, ground := Ground.chain }, { on := 14, ground := Ground.guard }], guard := some (14, true) }) rfl (fun K hK => ?_) AllReadyH.nil
  go_simp
  refine (Cerr1.out v5 B5.out).mono ?_; rintro e v6 ⟨rfl, hb⟩; have B6 := Lib.hid (B5.out.trans (hb.mono B5.out.size)); clear hb; simp only []
  refine hK.out _ _ B6.out (fun hHeld => ?_)
  clear hK K
  (try simp only [Act.put, List.setIfInBounds_toArray, List.set_cons_zero, List.set_cons_succ])
  refine wpAnyH_take (i := 18) (oi := { dst := some 68, op := Op.pick (Operand.tmp 64) (Operand.tmp 67) (Operand.const (Value.bool false)), type := 4, pos := "law.go:43", after := #[{ on := 14, ground := Ground.data }, { on := 17, ground := Ground.data }], guard := none }) (v := ?_) rfl (by kernel_rfl) (by kernel_rfl) (by kernel_rfl) (fun _ _ _ h => h) (Or.inl ⟨by rfl, ?_⟩) hHeld ?_
  rotate_left
  · (intro W hSw; (try dsimp only at hSw); go_simp; try with_reducible rfl)
  (try simp only [Act.put, List.setIfInBounds_toArray, List.set_cons_zero, List.set_cons_succ])
  refine wpAnyH_take (i := 19) (oi := { dst := some 69, op := Op.move (Operand.tmp 68), type := 4, pos := "law.go:43", after := #[{ on := 18, ground := Ground.data }, { on := 17, ground := Ground.chain }], guard := none }) (v := ?_) rfl (by kernel_rfl) (by kernel_rfl) (by kernel_rfl) (fun _ _ _ h => h) (Or.inl ⟨by rfl, ?_⟩) hHeld ?_
  rotate_left
  · (intro W hSw; (try dsimp only at hSw); go_simp; try with_reducible rfl)
  (try simp only [Act.put, List.setIfInBounds_toArray, List.set_cons_zero, List.set_cons_succ])
  refine wpAnyH_take (i := 20) (oi := { dst := some 70, op := Op.load 24 (Operand.tmp 10), type := 24, pos := "law.go:43", after := #[{ on := 19, ground := Ground.guard }], guard := some (19, true) }) (v := ?_) rfl (by kernel_rfl) (by kernel_rfl) (by kernel_rfl) (fun _ _ _ h => h) (Or.inl ⟨by rfl, ?_⟩) hHeld ?_
  rotate_left
  · (intro W hSw; (try dsimp only at hSw); obtain ⟨t0, t1, t2, t3⟩ := cells4' (P11.out.on hSw).x10; go_simp; try with_reducible rfl)
  (try simp only [Act.put, List.setIfInBounds_toArray, List.set_cons_zero, List.set_cons_succ])
  refine wpAnyH_take (i := 22) (oi := { dst := some 72, op := Op.load 38 (Operand.tmp 12), type := 38, pos := "law.go:43", after := #[{ on := 19, ground := Ground.guard }], guard := some (19, true) }) (v := ?_) rfl (by kernel_rfl) (by kernel_rfl) (by kernel_rfl) (fun _ _ _ h => h) (Or.inl ⟨by rfl, ?_⟩) hHeld ?_
  rotate_left
  · (intro W hSw; (try dsimp only at hSw); obtain ⟨t0, t1, t2, t3⟩ := cells4' (P11.out.on hSw).x12; go_simp; try with_reducible rfl)
  (try simp only [Act.put, List.setIfInBounds_toArray, List.set_cons_zero, List.set_cons_succ])
  refine wpAnyH_ready (rs := [21]) (by kernel_rfl) (by simp) ?_
  refine AllReadyH.cons (o := { dst := some 71, op := Op.call { callee := Callee.value (Operand.func 9), args := #[Operand.tmp 70], argTypes := #[24] }, type := 38, pos := "law.go:43", after := #[{ on := 20, ground := Ground.data }, { on := 19, ground := Ground.chain }, { on := 19, ground := Ground.guard }], guard := some (19, true) }) rfl (fun K hK => ?_) AllReadyH.nil
  go_simp
  refine (Cpl2.out v6 B6.out).mono ?_; rintro e v7 ⟨rfl, hb⟩; have B7 := Lib.hid (B6.out.trans (hb.mono B6.out.size)); clear hb; simp only []
  refine hK.out _ _ B7.out (fun hHeld => ?_)
  clear hK K
  (try simp only [Act.put, List.setIfInBounds_toArray, List.set_cons_zero, List.set_cons_succ])
  refine wpAnyH_ready (rs := [23]) (by kernel_rfl) (by simp) ?_
  refine AllReadyH.cons (o := { dst := some 73, op := Op.call { callee := Callee.value (Operand.func 16), args := #[Operand.tmp 71, Operand.tmp 72], argTypes := #[38, 38] }, type := 4, pos := "law.go:43", after := #[{ on := 21, ground := Ground.data }, { on := 22, ground := Ground.data }, { on := 21, ground := Ground.chain }, { on := 19, ground := Ground.guard }], guard := some (19, true) }) rfl (fun K hK => ?_) AllReadyH.nil
  go_simp
  refine (Csame.out v7 B7.out).mono ?_; rintro e v8 ⟨rfl, hb⟩; have B8 := Lib.hid (B7.out.trans (hb.mono B7.out.size)); clear hb; simp only []
  refine hK.out _ _ B8.out (fun hHeld => ?_)
  clear hK K
  (try simp only [Act.put, List.setIfInBounds_toArray, List.set_cons_zero, List.set_cons_succ])
  refine wpAnyH_take (i := 24) (oi := { dst := some 74, op := Op.pick (Operand.tmp 69) (Operand.tmp 73) (Operand.const (Value.bool false)), type := 4, pos := "law.go:43", after := #[{ on := 19, ground := Ground.data }, { on := 23, ground := Ground.data }], guard := none }) (v := ?_) rfl (by kernel_rfl) (by kernel_rfl) (by kernel_rfl) (fun _ _ _ h => h) (Or.inl ⟨by rfl, ?_⟩) hHeld ?_
  rotate_left
  · (intro W hSw; (try dsimp only at hSw); go_simp; try with_reducible rfl)
  (try simp only [Act.put, List.setIfInBounds_toArray, List.set_cons_zero, List.set_cons_succ])
  refine wpAnyH_take (i := 25) (oi := { dst := some 75, op := Op.move (Operand.tmp 74), type := 4, pos := "law.go:43", after := #[{ on := 24, ground := Ground.data }, { on := 23, ground := Ground.chain }], guard := none }) (v := ?_) rfl (by kernel_rfl) (by kernel_rfl) (by kernel_rfl) (fun _ _ _ h => h) (Or.inl ⟨by rfl, ?_⟩) hHeld ?_
  rotate_left
  · (intro W hSw; (try dsimp only at hSw); go_simp; try with_reducible rfl)
  (try simp only [Act.put, List.setIfInBounds_toArray, List.set_cons_zero, List.set_cons_succ])
  refine wpAnyH_take (i := 26) (oi := { dst := some 76, op := Op.move (Operand.tmp 11), type := 29, pos := "law.go:43", after := #[{ on := 25, ground := Ground.guard }], guard := some (25, true) }) (v := ?_) rfl (by kernel_rfl) (by kernel_rfl) (by kernel_rfl) (fun _ _ _ h => h) (Or.inl ⟨by rfl, ?_⟩) hHeld ?_
  rotate_left
  · (intro W hSw; (try dsimp only at hSw); go_simp; try with_reducible rfl)
  (try simp only [Act.put, List.setIfInBounds_toArray, List.set_cons_zero, List.set_cons_succ])
  refine wpAnyH_take (i := 27) (oi := { dst := some 77, op := Op.load 35 (Operand.tmp 13), type := 35, pos := "law.go:43", after := #[{ on := 25, ground := Ground.guard }], guard := some (25, true) }) (v := ?_) rfl (by kernel_rfl) (by kernel_rfl) (by kernel_rfl) (fun _ _ _ h => h) (Or.inl ⟨by rfl, ?_⟩) hHeld ?_
  rotate_left
  · (intro W hSw; (try dsimp only at hSw); obtain ⟨t0, t1⟩ := cells2' (P11.out.on hSw).x13; go_simp; try with_reducible rfl)
  (try simp only [Act.put, List.setIfInBounds_toArray, List.set_cons_zero, List.set_cons_succ])
  refine wpAnyH_ready (rs := [28]) (by kernel_rfl) (by simp) ?_
  refine AllReadyH.cons (o := { dst := some 78, op := Op.call { callee := Callee.value (Operand.func 15), args := #[Operand.tmp 76, Operand.tmp 77], argTypes := #[29, 35] }, type := 4, pos := "law.go:43", after := #[{ on := 26, ground := Ground.data }, { on := 27, ground := Ground.data }, { on := 25, ground := Ground.chain }, { on := 25, ground := Ground.guard }], guard := some (25, true) }) rfl (fun K hK => ?_) AllReadyH.nil
  go_simp
  refine (Cerr2.out v8 B8.out).mono ?_; rintro e v9 ⟨rfl, hb⟩; have B9 := Lib.hid (B8.out.trans (hb.mono B8.out.size)); clear hb; simp only []
  refine hK.out _ _ B9.out (fun hHeld => ?_)
  clear hK K
  (try simp only [Act.put, List.setIfInBounds_toArray, List.set_cons_zero, List.set_cons_succ])
  refine wpAnyH_take (i := 29) (oi := { dst := some 79, op := Op.pick (Operand.tmp 75) (Operand.tmp 78) (Operand.const (Value.bool false)), type := 4, pos := "law.go:43", after := #[{ on := 25, ground := Ground.data }, { on := 28, ground := Ground.data }], guard := none }) (v := ?_) rfl (by kernel_rfl) (by kernel_rfl) (by kernel_rfl) (fun _ _ _ h => h) (Or.inl ⟨by rfl, ?_⟩) hHeld ?_
  rotate_left
  · (intro W hSw; (try dsimp only at hSw); go_simp; try with_reducible rfl)
  (try simp only [Act.put, List.setIfInBounds_toArray, List.set_cons_zero, List.set_cons_succ])
  refine wpAnyH_take (i := 30) (oi := { dst := some 80, op := Op.move (Operand.tmp 79), type := 4, pos := "law.go:43", after := #[{ on := 29, ground := Ground.data }, { on := 28, ground := Ground.chain }], guard := none }) (v := ?_) rfl (by kernel_rfl) (by kernel_rfl) (by kernel_rfl) (fun _ _ _ h => h) (Or.inl ⟨by rfl, ?_⟩) hHeld ?_
  rotate_left
  · (intro W hSw; (try dsimp only at hSw); go_simp; try with_reducible rfl)
  (try simp only [Act.put, List.setIfInBounds_toArray, List.set_cons_zero, List.set_cons_succ])
  refine wpAnyH_take (i := 31) (oi := { dst := some 81, op := Op.move (Operand.tmp 5), type := 22, pos := "law.go:43", after := #[{ on := 30, ground := Ground.guard }], guard := some (30, true) }) (v := ?_) rfl (by kernel_rfl) (by kernel_rfl) (by kernel_rfl) (fun _ _ _ h => h) (Or.inl ⟨by rfl, ?_⟩) hHeld ?_
  rotate_left
  · (intro W hSw; (try dsimp only at hSw); go_simp; try with_reducible rfl)
  (try simp only [Act.put, List.setIfInBounds_toArray, List.set_cons_zero, List.set_cons_succ])
  refine wpAnyH_take (i := 32) (oi := { dst := some 82, op := Op.fieldAddr 24 (Operand.tmp 2) 3, type := 0, pos := "law.go:43", after := #[{ on := 30, ground := Ground.guard }], guard := some (30, true) }) (v := ?_) rfl (by kernel_rfl) (by kernel_rfl) (by kernel_rfl) (fun _ _ _ h => h) (Or.inl ⟨by rfl, ?_⟩) hHeld ?_
  rotate_left
  · (intro W hSw; (try dsimp only at hSw); go_simp; try with_reducible rfl)
  (try simp only [Act.put, List.setIfInBounds_toArray, List.set_cons_zero, List.set_cons_succ])
  refine wpAnyH_take (i := 33) (oi := { dst := some 83, op := Op.load 22 (Operand.tmp 82), type := 22, pos := "law.go:43", after := #[{ on := 32, ground := Ground.data }, { on := 30, ground := Ground.guard }], guard := some (30, true) }) (v := ?_) rfl (by kernel_rfl) (by kernel_rfl) (by kernel_rfl) (fun _ _ _ h => h) (Or.inl ⟨by rfl, ?_⟩) hHeld ?_
  rotate_left
  · (intro W hSw; (try dsimp only at hSw); obtain ⟨t0, t1, t2, t3⟩ := cells4' (P11.out.on hSw).x2; go_simp; try with_reducible rfl)
  (try simp only [Act.put, List.setIfInBounds_toArray, List.set_cons_zero, List.set_cons_succ])
  refine wpAnyH_ready (rs := [34]) (by kernel_rfl) (by simp) ?_
  refine AllReadyH.cons (o := { dst := some 84, op := Op.call { callee := Callee.value (Operand.func 17), args := #[Operand.tmp 81, Operand.tmp 83], argTypes := #[22, 22] }, type := 4, pos := "law.go:43", after := #[{ on := 31, ground := Ground.data }, { on := 33, ground := Ground.data }, { on := 30, ground := Ground.chain }, { on := 30, ground := Ground.guard }], guard := some (30, true) }) rfl (fun K hK => ?_) AllReadyH.nil
  go_simp
  refine (Cints.out v9 B9.out).mono ?_; rintro e v10 ⟨rfl, hb⟩; have B10 := Lib.hid (B9.out.trans (hb.mono B9.out.size)); clear hb; simp only []
  refine hK.out _ _ B10.out (fun hHeld => ?_)
  clear hK K
  (try simp only [Act.put, List.setIfInBounds_toArray, List.set_cons_zero, List.set_cons_succ])
  refine wpAnyH_take (i := 35) (oi := { dst := some 85, op := Op.pick (Operand.tmp 80) (Operand.tmp 84) (Operand.const (Value.bool false)), type := 4, pos := "law.go:43", after := #[{ on := 30, ground := Ground.data }, { on := 34, ground := Ground.data }], guard := none }) (v := ?_) rfl (by kernel_rfl) (by kernel_rfl) (by kernel_rfl) (fun _ _ _ h => h) (Or.inl ⟨by rfl, ?_⟩) hHeld ?_
  rotate_left
  · (intro W hSw; (try dsimp only at hSw); go_simp; try with_reducible rfl)
  (try simp only [Act.put, List.setIfInBounds_toArray, List.set_cons_zero, List.set_cons_succ])
  refine wpAnyH_take (i := 36) (oi := { dst := some 4, op := Op.assign (Operand.tmp 85), type := 4, pos := "law.go:43", after := #[{ on := 35, ground := Ground.data }, { on := 34, ground := Ground.chain }, { on := 0, ground := Ground.phase }, { on := 1, ground := Ground.phase }, { on := 2, ground := Ground.phase }, { on := 3, ground := Ground.phase }, { on := 4, ground := Ground.phase }, { on := 5, ground := Ground.phase }, { on := 6, ground := Ground.phase }, { on := 7, ground := Ground.phase }, { on := 8, ground := Ground.phase }, { on := 9, ground := Ground.phase }, { on := 10, ground := Ground.phase }, { on := 11, ground := Ground.phase }, { on := 12, ground := Ground.phase }, { on := 13, ground := Ground.phase }, { on := 14, ground := Ground.phase }, { on := 15, ground := Ground.phase }, { on := 16, ground := Ground.phase }, { on := 17, ground := Ground.phase }, { on := 18, ground := Ground.phase }, { on := 19, ground := Ground.phase }, { on := 20, ground := Ground.phase }, { on := 21, ground := Ground.phase }, { on := 22, ground := Ground.phase }, { on := 23, ground := Ground.phase }, { on := 24, ground := Ground.phase }, { on := 25, ground := Ground.phase }, { on := 26, ground := Ground.phase }, { on := 27, ground := Ground.phase }, { on := 28, ground := Ground.phase }, { on := 29, ground := Ground.phase }, { on := 30, ground := Ground.phase }, { on := 31, ground := Ground.phase }, { on := 32, ground := Ground.phase }, { on := 33, ground := Ground.phase }, { on := 34, ground := Ground.phase }, { on := 35, ground := Ground.phase }], guard := none }) (v := ?_) rfl (by kernel_rfl) (by kernel_rfl) (by kernel_rfl) (fun _ _ _ h => h) (Or.inl ⟨by rfl, ?_⟩) hHeld ?_
  rotate_left
  · (intro W hSw; (try dsimp only at hSw); go_simp; try with_reducible rfl)
  (try simp only [Act.put, List.setIfInBounds_toArray, List.set_cons_zero, List.set_cons_succ])
  refine wpAnyH_done (by kernel_rfl) ?_ _

  go_wp2
  go_ret
  exact HXE.out _ B10.out
end Go.Proofs.YtngfaailbkadfaaDoor
