/- pdu.putValues, wordOf, putHead: what a request and a reply are written as. -/
import Derived.Test.YtngfaailbkadfaaDoorVals
namespace Go.Proofs.YtngfaailbkadfaaDoor
open Go.RowKit Go.Extern.Stop Go.Stop Go.Extern
set_option maxRecDepth 100000

/-- A number is written; a row of bytes that is newer than what was written stands. -/
theorem st_b2 (W0 w w1 : World) (b : Nat) (l : List UInt8) (n : Nat) (x : Int) (u : Value) (m : Nat) (xs : List Value) (h : St W0 b l w) (hb : Below w.heap.size w w1) (hr : w1.ownsRow w.heap.size 5 1 u m xs) (hl : l.length ≤ 1000000) (hx : UFits n x) :
    Calls Tryd.prog 43 #[.pointer (some ⟨b, 0, none⟩), .int .i64 (n : Int), .int .i64 x] w1 fun e w' => UIs W0 w1 b l (be n x) e w' ∧ w'.ownsRow w.heap.size 5 1 u m xs := by
  obtain ⟨v, h1, h2⟩ := h
  refine (wb_ok _ b v l n x w1 (h1.on hb) (by omega) hx).mono ?_
  rintro e w' ⟨rfl, hp⟩
  refine ⟨⟨rfl, put_st (h1.on hb) (h2.trans (hb.mono h2.size)) hp⟩, ?_⟩
  obtain ⟨v', hw, ho, _⟩ := hp
  refine ownsRow_off hr ho (fun k e s => ?_)
  rcases s with rfl | s
  · obtain ⟨cur, hc⟩ := row_type hr e
    rw [(h1.on hb).obj] at hc
    simp at hc
  · have := (h1.own.lt k s).2
    have := (hr.lt k e).1
    omega

/-- What putting leaves. -/
def PutsF (W0 w : World) (b : Nat) (l m : List UInt8) (e : Ending) (w' : World) : Prop := e = .returned (.tuple #[]) ∧ St W0 b (l ++ m) w' ∧ Keeps w w'
set_option maxHeartbeats 1000000 in
theorem putv_any (W0 w : World) (b : Nat) (l : List UInt8) (f : Int) (v : Value) (vs : List Int) (h : St W0 b l w) (hv : IntsAt w v vs) (hb : ValsOk f vs) (hl : vs.length ≤ 100000) (hd : (dataF f vs).length ≤ 255) (hll : l.length ≤ 100000) : Calls Tryd.prog 27 #[.pointer (some ⟨b, 0, none⟩), .int .i64 f, v] w (PutsF W0 w b l (putF f vs)) := by
  have H := Lib.hid h
  have HV := Lib.hid hv
  have HB := Lib.hid hb
  have HL := Lib.hid (And.intro hl (And.intro hd hll))
  clear h hv hb hl hd hll
  go_enter Tryd.func27, Tryd.ntmps27
  go_wp2_with fail
  refine (dataof_any f v vs w HV.out HB.out HL.out.1).mono ?_
  rintro e w1 ⟨x, rfl, hx, hb⟩
  obtain ⟨ax, cx, rfl, _⟩ := bytesAt_own hx
  have HX := Lib.hid (bytesAt_own hx)
  have HB1 := Lib.hid hb
  have HX0 := Lib.hid hx
  have HP : Hid (putF f vs = be 1 ((dataF f vs).length : Int) ++ dataF f vs) := Lib.hid rfl
  have HD := Lib.hid HL.out.2.1
  have H1 := Lib.hid (H.out.on hb)
  clear hx hb
  generalize dataF f vs = d at *
  go_wp2_with fail
  refine (st_b2 W0 w w1 b l 1 (d.length : Int) _ _ _ H.out HB1.out HX0.out (by have := HL.out; omega) (u1 (by omega) (by have := HD.out; omega))).mono ?_
  rintro e w2 ⟨⟨rfl, hs, hk⟩, hx2⟩
  have H2 := Lib.hid hs
  have K2 := Lib.hid ((Keeps.of HB1.out).trans hk)
  clear hs
  have HX2 : Hid (BytesAt w2 (.slice ax d.length cx) d) := Lib.hid (bytesAt_own hx2)
  clear hk hx2
  go_wp2_with fail
  refine (st_bytes W0 w2 b _ d _ H2.out HX2.out (by rw [List.length_append, be_length]; have := HL.out; have := HD.out; omega)).mono ?_
  rintro e w3 ⟨rfl, hs, hk⟩
  have H3 : Hid (PutsF W0 w b l (putF f vs) (.returned (.tuple #[])) w3) := Lib.hid ⟨rfl, by rw [HP.out, ← List.append_assoc]; exact hs, K2.out.trans hk⟩
  clear hs hk
  go_wp2
  go_end0
  exact H3.out

/-- Values that stand in a request that is valid, as wordOf wants them. -/
def WordOk (r : Rq) : Prop := (r.f = 5 → ∃ y, r.vs = [y] ∧ 0 ≤ y ∧ y ≤ 1) ∧ (r.f = 6 → ∃ y, r.vs = [y] ∧ 0 ≤ y ∧ y ≤ 65535)
theorem wordOk_of {r : Rq} (h : r.may = true) : WordOk r := by
  cases kind_of h with
  | read hf hc hc2 hs hv => exact ⟨fun e => by omega, fun e => by omega⟩
  | bit hf hc hs v hv hb => exact ⟨fun e => ⟨v, hv, by omega⟩, fun e => by omega⟩
  | reg hf hc hs v hv hb => exact ⟨fun e => by omega, fun e => ⟨v, hv, by omega⟩⟩
  | many hf hc hc1 hc2 hs hv hd => exact ⟨fun e => by omega, fun e => by omega⟩
theorem intsAt_one {w : World} {v : Value} {y : Int} (h : IntsAt w v [y]) : ∃ b off cap, v = .slice (some ⟨b, off, none⟩) 1 cap ∧ w.cell? ⟨b, off, none⟩ = some (.int .i64 y) := by
  obtain ⟨ao, cap, hv, hc⟩ := h
  obtain ⟨b, off, rfl, hcell⟩ := hc 0 (by simp)
  exact ⟨b, off, cap, hv, by simpa using hcell⟩
def Rq.val (r : Rq) (v : Value) : Value := .agg #[.int .i64 r.f, .int .i64 r.s, .int .i64 r.c, v]
set_option maxHeartbeats 1000000 in
theorem wordof_any (r : Rq) (v : Value) (w : World) (hv : IntsAt w v r.vs) (hw : WordOk r) : Calls Tryd.prog 49 #[r.val v] w fun e w' => e = .returned (.int .i64 (wordF r)) ∧ Below w.heap.size w w' := by
  obtain ⟨f, s, c, vs⟩ := r
  unfold Rq.val
  dsimp only at hv ⊢
  by_cases h5 : f = 5
  · obtain ⟨y, hy, h0, h1⟩ := hw.1 h5
    dsimp only at hy
    subst hy h5
    obtain ⟨b, off, cap, rfl, hc0⟩ := intsAt_one hv
    have hc := Lib.cell?_alloc_some (.cells #[.int .i64 5, .int .i64 s, .int .i64 c, .slice (some ⟨b, off, none⟩) 1 cap] 24) hc0
    clear hc0
    have HY : Hid (wordF ⟨5, s, c, [y]⟩ = 65280 * y) := Lib.hid (by simp [wordF])
    clear hv hw
    go_enter Tryd.func49, Tryd.ntmps49
    go_wp2
    go_ret
    rw [HY.out]
    exact ⟨rfl, below_new _ _⟩
  · by_cases h6 : f = 6
    · obtain ⟨y, hy, h0, h1⟩ := hw.2 h6
      dsimp only at hy
      subst hy h6
      obtain ⟨b, off, cap, rfl, hc0⟩ := intsAt_one hv
      have hc := Lib.cell?_alloc_some (.cells #[.int .i64 6, .int .i64 s, .int .i64 c, .slice (some ⟨b, off, none⟩) 1 cap] 24) hc0
      clear hc0
      have HY : Hid (wordF ⟨6, s, c, [y]⟩ = y) := Lib.hid (by simp [wordF])
      clear hv hw h5
      go_enter Tryd.func49, Tryd.ntmps49
      go_wp2
      go_ret
      rw [HY.out]
      exact ⟨rfl, below_new _ _⟩
    · have n5 : (f == 5) = false := by simpa using h5
      have n6 : (f == 6) = false := by simpa using h6
      have HY : Hid (wordF ⟨f, s, c, vs⟩ = c) := Lib.hid (by simp [wordF, h5, h6])
      clear hv hw h5 h6
      go_enter Tryd.func49, Tryd.ntmps49
      go_wp2
      go_ret
      rw [HY.out]
      exact ⟨rfl, below_new _ _⟩
end Go.Proofs.YtngfaailbkadfaaDoor
