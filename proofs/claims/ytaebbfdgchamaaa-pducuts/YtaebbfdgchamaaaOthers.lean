/- yardlaw7.PduOthers answers true for every two requests and every reply; memory that was there stands. -/
import Derived.Test.YtaebbfdgchamaaaAny
namespace Go.Proofs.Ytaebbfdgchamaaa
open Go.RowKit Go.Extern.Stop Go.Stop Go.Extern

/-- Two requests and a reply, one box behind the other. -/
def Tri (w W : World) (f s c : Int) (v : Value) (f2 s2 c2 : Int) (v2 : Value) (code : Int) (pv : Value) : Prop := Below w.heap.size w W ∧ BoxR W w.heap.size f s c v ∧ BoxR W (w.heap.size + 1) f2 s2 c2 v2 ∧ BoxP W (w.heap.size + 2) code pv
theorem tri_new (w : World) (f s c : Int) (v : Value) (f2 s2 c2 : Int) (v2 : Value) (code : Int) (pv : Value) : Tri w (((w.alloc (.cells #[.int .i64 f, .int .i64 s, .int .i64 c, v] 24)).alloc (.cells #[.int .i64 f2, .int .i64 s2, .int .i64 c2, v2] 24)).alloc (.cells #[.int .i64 code, pv] 38)) f s c v f2 s2 c2 v2 code pv := by
  refine ⟨((below_new w _).trans ((below_new (w.alloc _) _).mono (by simp))).trans ((below_new _ _).mono (by simp; omega)), ?_, ?_, ?_⟩
  · have h : BoxR (w.alloc (.cells #[.int .i64 f, .int .i64 s, .int .i64 c, v] 24)) w.heap.size f s c v := heap_alloc_new w _
    exact (h.on (below_new _ _)).on (below_new _ _)
  · have h := heap_alloc_new (w.alloc (.cells #[.int .i64 f, .int .i64 s, .int .i64 c, v] 24)) (.cells #[.int .i64 f2, .int .i64 s2, .int .i64 c2, v2] 24)
    have h2 : BoxR ((w.alloc (.cells #[.int .i64 f, .int .i64 s, .int .i64 c, v] 24)).alloc (.cells #[.int .i64 f2, .int .i64 s2, .int .i64 c2, v2] 24)) (w.heap.size + 1) f2 s2 c2 v2 := by simpa [BoxR] using h
    exact h2.on (below_new _ _)
  · have h := heap_alloc_new ((w.alloc (.cells #[.int .i64 f, .int .i64 s, .int .i64 c, v] 24)).alloc (.cells #[.int .i64 f2, .int .i64 s2, .int .i64 c2, v2] 24)) (.cells #[.int .i64 code, pv] 38)
    simpa [BoxP] using h
theorem Tri.on {w W W' : World} {f s c : Int} {v : Value} {f2 s2 c2 : Int} {v2 : Value} {code : Int} {pv : Value} (h : Tri w W f s c v f2 s2 c2 v2 code pv) (hb : Below W.heap.size W W') : Tri w W' f s c v f2 s2 c2 v2 code pv := ⟨h.1.trans (hb.mono h.1.size), h.2.1.on hb, h.2.2.1.on hb, h.2.2.2.on hb⟩
/-- What a law answers. -/
def Holds (w : World) (e : Ending) (w' : World) : Prop := e = .returned (.bool true) ∧ Below w.heap.size w w'

set_option maxRecDepth 100000 in
set_option maxHeartbeats 4000000 in
theorem others_any (r q : Rq) (p : Rp) (v u pv : Value) (w : World) (hv : IntsAt w v r.vs) (hu : IntsAt w u q.vs) (hp : IntsAt w pv p.vs) : Calls Try.prog 7 #[r.val v, q.val u, p.val pv] w (Holds w) := by
  obtain ⟨f, s, c, vs⟩ := r
  obtain ⟨f2, s2, c2, us⟩ := q
  obtain ⟨code, ps⟩ := p
  unfold Rq.val Rp.val
  dsimp only at hv hu hp ⊢
  have HV := Lib.hid hv
  have HU := Lib.hid hu
  have HP := Lib.hid hp
  obtain ⟨av, kv, rfl, _⟩ := id hv
  obtain ⟨au, ku, rfl, _⟩ := id hu
  obtain ⟨ap, kp, rfl, _⟩ := id hp
  clear hv hu hp
  obtain ⟨wx, hwx⟩ : ∃ wx, wx = ((w.alloc (.cells #[.int .i64 f, .int .i64 s, .int .i64 c, .slice av vs.length kv] 24)).alloc (.cells #[.int .i64 f2, .int .i64 s2, .int .i64 c2, .slice au us.length ku] 24)).alloc (.cells #[.int .i64 code, .slice ap ps.length kp] 38) := ⟨_, rfl⟩
  have T0 : Hid (Tri w wx f s c (.slice av vs.length kv) f2 s2 c2 (.slice au us.length ku) code (.slice ap ps.length kp)) := Lib.hid (by rw [hwx]; exact tri_new _ _ _ _ _ _ _ _ _ _ _)
  go_enter Try.func7, Try.ntmps7
  go_wp2_with fail
  rw [← hwx]
  clear hwx
  refine (first_any wx).mono ?_
  rintro e w1 ⟨rfl, hb⟩
  have T1 := Lib.hid (T0.out.on hb)
  clear hb
  obtain ⟨c0, c1, c2', c3⟩ := cells4 T1.out.2.1
  obtain ⟨e0, e1, e2, e3⟩ := cells4 T1.out.2.2.1
  obtain ⟨p0, p1⟩ := T1.out.2.2.2.cells
  have quit : ∀ (W : World), Below w.heap.size w W → Hid (Calls Try.prog 11 #[] W (Holds w)) := fun W h => Lib.hid ((first_any W).mono fun e w' h' => ⟨h'.1, h.trans (h'.2.mono h.size)⟩)
  by_cases h1 : (3000 : Int) < (vs.length : Int)
  · go_wp2_with fail
    refine (quit w1 T1.out.1).out.mono ?_
    rintro e w2 ⟨rfl, hb⟩
    have HB := Lib.hid hb
    clear hb
    go_wp2
    go_ret
    exact ⟨rfl, HB.out⟩
  by_cases h2 : (3000 : Int) < (us.length : Int)
  · go_wp2_with fail
    refine (quit w1 T1.out.1).out.mono ?_
    rintro e w2 ⟨rfl, hb⟩
    have HB := Lib.hid hb
    clear hb
    go_wp2
    go_ret
    exact ⟨rfl, HB.out⟩
  by_cases h3 : (3000 : Int) < (ps.length : Int)
  · go_wp2_with fail
    refine (quit w1 T1.out.1).out.mono ?_
    rintro e w2 ⟨rfl, hb⟩
    have HB := Lib.hid hb
    clear hb
    go_wp2
    go_ret
    exact ⟨rfl, HB.out⟩
  by_cases h4 : f = f2
  · have n4 : (f == f2) = true := by simpa using h4
    clear h4
    go_wp2_with fail
    refine (quit w1 T1.out.1).out.mono ?_
    rintro e w2 ⟨rfl, hb⟩
    have HB := Lib.hid hb
    clear hb
    go_wp2
    go_ret
    exact ⟨rfl, HB.out⟩
  have n4 : (f == f2) = false := by simpa using h4
  have HNE := Lib.hid h4
  have HL : Hid (vs.length ≤ 100000 ∧ us.length ≤ 100000 ∧ ps.length ≤ 100000) := Lib.hid (by omega)
  clear h4
  go_wp2_with fail
  rcases Bool.eq_false_or_eq_true (Rq.may ⟨f, s, c, vs⟩ && mayR ⟨f, s, c, vs⟩ ⟨code, ps⟩) with hm | hm
  · have HM := Lib.hid (by rwa [Bool.and_eq_true] at hm : Rq.may ⟨f, s, c, vs⟩ = true ∧ mayR ⟨f, s, c, vs⟩ ⟨code, ps⟩ = true)
    clear hm
    refine (ans_ok ⟨f, s, c, vs⟩ ⟨code, ps⟩ _ _ w1 (HV.out.on T1.out.1) (HP.out.on T1.out.1) HM.out.1 HM.out.2 HL.out.1 HL.out.2.2).mono ?_
    intro e w2 h
    obtain ⟨a2, k2, rfl, hx, _, hb⟩ := h.form
    have T2 := Lib.hid (T1.out.on hb)
    have X2 := Lib.hid hx
    have HLA := Lib.hid (ansF_length HM.out.1 HM.out.2)
    have HRD : Hid ((Rq.may ⟨f2, s2, c2, us⟩ && readB ⟨f2, s2, c2, us⟩ (ansF ⟨f, s, c, vs⟩ ⟨code, ps⟩)) = false) := Lib.hid (by
      cases hq : Rq.may ⟨f2, s2, c2, us⟩ with
      | false => rfl
      | true => rw [Bool.true_and]; exact read_other HM.out.1 HM.out.2 hq HNE.out)
    clear h hx hb c0 c1 c2' c3 e0 e1 e2 e3 p0 p1
    generalize ansF ⟨f, s, c, vs⟩ ⟨code, ps⟩ = b at *
    obtain ⟨e0, e1, e2, e3⟩ := cells4 T2.out.2.2.1
    go_wp2_with fail
    refine (read_no ⟨f2, s2, c2, us⟩ _ _ b w2 (HU.out.on T2.out.1) X2.out HL.out.2.1 (by have := HLA.out; omega) HRD.out).mono ?_
    intro e w3 h
    obtain ⟨b3, rfl, hb⟩ := h.form
    have T3 := Lib.hid (T2.out.on hb)
    clear h hb e0 e1 e2 e3
    unfold Rp.zero
    go_wp2_with fail
    refine (quit _ (T3.out.1.alloc T3.out.1.size _)).out.mono ?_
    rintro e w4 ⟨rfl, hb⟩
    have HB := Lib.hid hb
    clear hb
    go_wp2
    go_ret
    exact ⟨rfl, HB.out⟩
  · have HM := Lib.hid hm
    clear hm
    refine (ans_no ⟨f, s, c, vs⟩ ⟨code, ps⟩ _ _ w1 (HV.out.on T1.out.1) (HP.out.on T1.out.1) HM.out HL.out.1 HL.out.2.2).mono ?_
    intro e w2 h
    obtain ⟨b2, rfl, hb⟩ := h.form
    have T2 := Lib.hid (T1.out.on hb)
    clear h hb c0 c1 c2' c3 e0 e1 e2 e3 p0 p1
    go_wp2_with fail
    refine (quit w2 T2.out.1).out.mono ?_
    rintro e w4 ⟨rfl, hb⟩
    have HB := Lib.hid hb
    clear hb
    go_wp2
    go_ret
    exact ⟨rfl, HB.out⟩
end Go.Proofs.Ytaebbfdgchamaaa
