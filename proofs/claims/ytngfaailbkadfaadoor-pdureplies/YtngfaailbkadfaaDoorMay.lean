/- pdu.May; a request in a box. -/
import Derived.Test.YtngfaailbkadfaaDoorFmt
namespace Go.Proofs.YtngfaailbkadfaaDoor
open Go.RowKit Go.Extern.Stop Go.Stop Go.Extern
set_option maxRecDepth 100000

/-- A box with a request, behind what w0 had. -/
def ReqAt (w0 w : World) (k : Nat) (f s c : Int) (v : Value) : Prop := Below w0.heap.size w0 w ∧ w.heap[k]? = some (.cells #[.int .i64 f, .int .i64 s, .int .i64 c, v] 24 (0, 0))
theorem ReqAt.on {w0 w w' : World} {k : Nat} {f s c : Int} {v : Value} (h : ReqAt w0 w k f s c v) (hb : Below w.heap.size w w') : ReqAt w0 w' k f s c v := ⟨h.1.trans (hb.mono h.1.size), (hb.block k (lt_heap h.2)).trans h.2⟩
theorem ReqAt.new (w : World) (f s c : Int) (v : Value) : ReqAt w (w.alloc (.cells #[.int .i64 f, .int .i64 s, .int .i64 c, v] 24)) w.heap.size f s c v := ⟨below_new _ _, heap_alloc_new w _⟩
theorem cells4 {w : World} {k : Nat} {a0 a1 a2 a3 : Value} {t : TypeId} (h : w.heap[k]? = some (.cells #[a0, a1, a2, a3] t (0, 0))) : w.cell? ⟨k, 0, none⟩ = some a0 ∧ w.cell? ⟨k, 1, none⟩ = some a1 ∧ w.cell? ⟨k, 2, none⟩ = some a2 ∧ w.cell? ⟨k, 3, none⟩ = some a3 := by
  refine ⟨?_, ?_, ?_, ?_⟩ <;> (rw [cell_of_row _ _ _ _ _ _ h]; rfl)
theorem cells2 {w : World} {k : Nat} {a0 a1 : Value} {t : TypeId} (h : w.heap[k]? = some (.cells #[a0, a1] t (0, 0))) : w.cell? ⟨k, 0, none⟩ = some a0 ∧ w.cell? ⟨k, 1, none⟩ = some a1 := by
  refine ⟨?_, ?_⟩ <;> (rw [cell_of_row _ _ _ _ _ _ h]; rfl)

/-- Is a request valid? -/
def mayB (f s c : Int) (vs : List Int) : Bool := within c 1 (fMost f) && within s 0 (65536 - c) && areV vs (if fReads f then 0 else c) (fTop f)
theorem within_iff {n a b : Int} : within n a b = true ↔ a ≤ n ∧ n ≤ b := by simp [within]

set_option maxRecDepth 100000 in
set_option maxHeartbeats 4000000 in
theorem may_any (f s c : Int) (v : Value) (vs : List Int) (w : World) (hv : IntsAt w v vs) (hl : vs.length ≤ 100000) : Calls Tryd.prog 12 #[.agg #[.int .i64 f, .int .i64 s, .int .i64 c, v]] w fun e w' => e = .returned (.bool (mayB f s c vs)) ∧ Below w.heap.size w w' := by
  have HV := Lib.hid hv
  have HL := Lib.hid hl
  have H0 := Lib.hid (ReqAt.new w f s c v)
  have HM : Hid (mayB f s c vs = (within c 1 (fMost f) && within s 0 (65536 - c) && areV vs (if fReads f then 0 else c) (fTop f))) := Lib.hid rfl
  have HX : Hid (fMost f ≤ 2000) := Lib.hid (by unfold fMost; repeat' split; all_goals omega)
  clear hv hl
  go_enter Tryd.func12, Tryd.ntmps12
  go_wp2_with fail
  refine (format_any f _).mono ?_
  rintro e w1 ⟨rfl, hb1⟩
  have H1 := Lib.hid (H0.out.on hb1)
  clear hb1 H0
  obtain ⟨c0, c1, c2, c3⟩ := cells4 H1.out.2
  unfold fmtV
  generalize fMost f = m at HM HX ⊢
  generalize fTop f = t at HM ⊢
  generalize fReads f = r at HM ⊢
  have HB1 : Hid (ReqAt w (w1.alloc (.cells #[.int .i64 m, .int .i64 t, .bool r] 75)) w.heap.size f s c v ∧ (w1.alloc (.cells #[.int .i64 m, .int .i64 t, .bool r] 75)).heap[w1.heap.size]? = some (.cells #[.int .i64 m, .int .i64 t, .bool r] 75 (0, 0))) := Lib.hid ⟨H1.out.on (below_new _ _), heap_alloc_new w1 _⟩
  clear c0 c1 c2 c3
  obtain ⟨c0, c1, c2, c3⟩ := cells4 HB1.out.1.2
  rcases Bool.eq_false_or_eq_true (within c 1 m) with e1 | e1
  · have hc := within_iff.1 e1
    have hx := HX.out
    have hw : wrap64 (65536 - c) = 65536 - c := by unfold wrap64; omega
    clear hx hc
    rcases Bool.eq_false_or_eq_true (within s 0 (65536 - c)) with e2 | e2
    · cases r <;> (
        go_wp2_with fail
        refine (within_any c 1 m _).mono ?_
        rintro e w2 ⟨rfl, rfl⟩
        rw [e1]
        go_wp2_with fail
        refine (within_any s 0 _ _).mono ?_
        rintro e w2 ⟨rfl, rfl⟩
        rw [hw, e2]
        go_wp2_with fail
        refine (values_any v vs _ t _ (HV.out.on HB1.out.1.1) (by have := HL.out; omega)).mono ?_
        rintro e w2 ⟨rfl, hb2⟩
        have HB2 := Lib.hid (HB1.out.1.1.trans (hb2.mono HB1.out.1.1.size))
        clear hb2
        go_wp2
        go_ret
        refine ⟨?_, HB2.out⟩
        rw [HM.out, e1, e2]
        rfl)
    · cases r <;> (
        go_wp2_with fail
        refine (within_any c 1 m _).mono ?_
        rintro e w2 ⟨rfl, rfl⟩
        rw [e1]
        go_wp2_with fail
        refine (within_any s 0 _ _).mono ?_
        rintro e w2 ⟨rfl, rfl⟩
        rw [hw, e2]
        go_wp2
        go_ret
        refine ⟨?_, HB1.out.1.1⟩
        rw [HM.out, e1, e2]
        rfl)
  · cases r <;> (
      go_wp2_with fail
      refine (within_any c 1 m _).mono ?_
      rintro e w2 ⟨rfl, rfl⟩
      rw [e1]
      go_wp2
      go_ret
      refine ⟨?_, HB1.out.1.1⟩
      rw [HM.out, e1]
      rfl)
end Go.Proofs.YtngfaailbkadfaaDoor
