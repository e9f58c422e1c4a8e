/- yardlaw7.PduBack answers true for every two requests and every row of bytes; memory that was there stands. -/
import Derived.Test.YtaebbfdgchamaaaOthers
import Derived.Deep.RegionHeld3
import Derived.Deep.QuietTactic
import Derived.BigQuiet
namespace Go.Proofs.Ytaebbfdgchamaaa
open Go.RowKit Go.Extern.Stop Go.Stop Go.Extern

/-- Two requests, one box behind the other. -/
def Twq (w W : World) (f s c : Int) (v : Value) (f2 s2 c2 : Int) (v2 : Value) : Prop := Below w.heap.size w W ∧ BoxR W w.heap.size f s c v ∧ BoxR W (w.heap.size + 1) f2 s2 c2 v2
theorem twq_new (w : World) (f s c : Int) (v : Value) (f2 s2 c2 : Int) (v2 : Value) : Twq w ((w.alloc (.cells #[.int .i64 f, .int .i64 s, .int .i64 c, v] 24)).alloc (.cells #[.int .i64 f2, .int .i64 s2, .int .i64 c2, v2] 24)) f s c v f2 s2 c2 v2 := by
  refine ⟨(below_new w _).trans ((below_new (w.alloc _) _).mono (by simp)), ?_, ?_⟩
  · have h : BoxR (w.alloc (.cells #[.int .i64 f, .int .i64 s, .int .i64 c, v] 24)) w.heap.size f s c v := heap_alloc_new w _
    exact h.on (below_new _ _)
  · have h := heap_alloc_new (w.alloc (.cells #[.int .i64 f, .int .i64 s, .int .i64 c, v] 24)) (.cells #[.int .i64 f2, .int .i64 s2, .int .i64 c2, v2] 24)
    simpa [BoxR] using h
theorem Twq.on {w W W' : World} {f s c : Int} {v : Value} {f2 s2 c2 : Int} {v2 : Value} (h : Twq w W f s c v f2 s2 c2 v2) (hb : Below W.heap.size W W') : Twq w W' f s c v f2 s2 c2 v2 := ⟨h.1.trans (hb.mono h.1.size), h.2.1.on hb, h.2.2.on hb⟩

set_option maxRecDepth 100000 in
set_option maxHeartbeats 4000000 in
theorem back_any (r q : Rq) (v u vb : Value) (b : List UInt8) (w : World) (hv : IntsAt w v r.vs) (hu : IntsAt w u q.vs) (hy : BytesAt w vb b) : Calls Try.prog 3 #[r.val v, q.val u, vb] w (Holds w) := by
  obtain ⟨f, s, c, vs⟩ := r
  obtain ⟨f2, s2, c2, us⟩ := q
  unfold Rq.val
  dsimp only at hv hu ⊢
  have HV := Lib.hid hv
  have HU := Lib.hid hu
  have HY := Lib.hid hy
  obtain ⟨av, kv, rfl, _⟩ := id hv
  obtain ⟨au, ku, rfl, _⟩ := id hu
  obtain ⟨ay, ky, rfl, _⟩ := id hy
  clear hv hu hy
  obtain ⟨wx, hwx⟩ : ∃ wx, wx = (w.alloc (.cells #[.int .i64 f, .int .i64 s, .int .i64 c, .slice av vs.length kv] 24)).alloc (.cells #[.int .i64 f2, .int .i64 s2, .int .i64 c2, .slice au us.length ku] 24) := ⟨_, rfl⟩
  have T0 : Hid (Twq w wx f s c (.slice av vs.length kv) f2 s2 c2 (.slice au us.length ku)) := Lib.hid (by rw [hwx]; exact twq_new _ _ _ _ _ _ _ _ _)
  go_enter Try.func3, Try.ntmps3
  go_wp2_with fail
  rw [← hwx]
  clear hwx
  refine (first_any wx).mono ?_
  rintro e w1 ⟨rfl, hb⟩
  have T1 := Lib.hid (T0.out.on hb)
  clear hb
  obtain ⟨c0, c1, c2', c3⟩ := cells4 T1.out.2.1
  obtain ⟨e0, e1, e2, e3⟩ := cells4 T1.out.2.2
  have quit : ∀ (W : World), Below w.heap.size w W → Hid (Calls Try.prog 11 #[] W (Holds w)) := fun W h => Lib.hid ((first_any W).mono fun e w' h' => ⟨h'.1, h.trans (h'.2.mono h.size)⟩)
  by_cases h1 : (3000 : Int) < (vs.length : Int)
  · go_wp2_with fail
    refine (quit _ T1.out.1).out.mono ?_
    rintro e wq ⟨rfl, hb⟩
    have HB := Lib.hid hb
    clear hb
    go_wp2
    go_ret
    exact ⟨rfl, HB.out⟩
  by_cases h2 : (3000 : Int) < (us.length : Int)
  · go_wp2_with fail
    refine (quit _ T1.out.1).out.mono ?_
    rintro e wq ⟨rfl, hb⟩
    have HB := Lib.hid hb
    clear hb
    go_wp2
    go_ret
    exact ⟨rfl, HB.out⟩
  by_cases h3 : (3000 : Int) < (b.length : Int)
  · go_wp2_with fail
    refine (quit _ T1.out.1).out.mono ?_
    rintro e wq ⟨rfl, hb⟩
    have HB := Lib.hid hb
    clear hb
    go_wp2
    go_ret
    exact ⟨rfl, HB.out⟩
  have HL : Hid (vs.length ≤ 100000 ∧ us.length ≤ 100000 ∧ b.length ≤ 100000) := Lib.hid (by omega)
  go_wp2_with fail
  rcases Bool.eq_false_or_eq_true (Rq.may ⟨f, s, c, vs⟩) with hm | hm
  · have HM := Lib.hid hm
    have HLE := Lib.hid (encF_length hm)
    have HDE := Lib.hid (decB_enc hm)
    have HPE := Lib.hid (parse_enc hm)
    clear hm
    refine (enc_ok ⟨f, s, c, vs⟩ _ w1 (HV.out.on T1.out.1) HM.out HL.out.1).mono ?_
    intro e w2 h
    obtain ⟨a2, k2, rfl, hx, _, hb⟩ := h.form
    have T2 := Lib.hid (T1.out.on hb)
    have X2 := Lib.hid hx
    clear h hx hb c0 c1 c2' c3 e0 e1 e2 e3
    obtain ⟨x, hxx⟩ : ∃ x, x = encF ⟨f, s, c, vs⟩ := ⟨_, rfl⟩
    rw [← hxx] at HLE HDE HPE X2 ⊢
    have HXX := Lib.hid hxx
    clear hxx
    obtain ⟨e0, e1, e2, e3⟩ := cells4 T2.out.2.2
    go_wp2_with fail
    rcases Bool.eq_false_or_eq_true (Rq.may ⟨f2, s2, c2, us⟩) with hn | hn
    · have HN := Lib.hid hn
      clear hn
      refine (enc_ok ⟨f2, s2, c2, us⟩ _ w2 (HU.out.on T2.out.1) HN.out HL.out.2.1).mono ?_
      intro e w3 h
      obtain ⟨a3, k3, rfl, hx, _, hb⟩ := h.form
      have T3 := Lib.hid (T2.out.on hb)
      have Y3 := Lib.hid hx
      have X3 := Lib.hid (X2.out.on hb)
      have HEQ : Hid ((x == encF ⟨f2, s2, c2, us⟩) = sameB ⟨f, s, c, vs⟩ ⟨f2, s2, c2, us⟩) := Lib.hid (by
        rw [Bool.eq_iff_iff, sameB_iff, HXX.out]
        constructor
        · intro h
          exact enc_inj HM.out HN.out (eq_of_beq h)
        · intro h
          rw [h]
          exact beq_self_eq_true _)
      clear h hx hb e0 e1 e2 e3
      generalize encF ⟨f2, s2, c2, us⟩ = y at *
      obtain ⟨c0, c1, c2', c3⟩ := cells4 T3.out.2.1
      have BD : Hid (Below w3.heap.size w3 w3.drew) := Lib.hid (Below.refl _ _).drew
      have hmm : mayB f s c vs = true := HM.out
      have VD := Lib.hid ((HV.out.on T3.out.1).on BD.out)
      go_wp2_with fail
      go_region_held3 (fun w' => w'.cell? ⟨w.heap.size, 0, none⟩ = some (.int .i64 f) ∧ w'.cell? ⟨w.heap.size, 1, none⟩ = some (.int .i64 s) ∧ w'.cell? ⟨w.heap.size, 2, none⟩ = some (.int .i64 c) ∧ w'.cell? ⟨w.heap.size, 3, none⟩ = some (.slice av vs.length kv))
        (first
          | exact ⟨c0, c1, c2', c3⟩
          | exact ⟨d0, d1, d2, d3⟩
          | go_keep)
        ((go_at_call 13; refine (may_any f s c _ vs _ VD.out HL.out.1).mono ?_; rintro e w4 ⟨rfl, hb4⟩; rw [hmm]; have T4 := Lib.hid (T3.out.on (BD.out.trans hb4)); have X4 := Lib.hid (BD.out.trans hb4); obtain ⟨d0, d1, d2, d3⟩ := cells4 T4.out.2.1; clear hb4; simp only []))
      all_goals
        clear hmm c0 c1 c2' c3 d0 d1 d2 d3
        have X4' := Lib.hid (X3.out.on X4.out)
        have Y4' := Lib.hid (Y3.out.on X4.out)
        clear X4
        go_wp2_with fail
        refine (dec_ok _ x w4 X4'.out (by have := HLE.out; omega) HDE.out).mono ?_
        rw [HPE.out]
        rintro e w5 ⟨v5, rfl, hx, hb⟩
        unfold Rq.val
        dsimp only at hx ⊢
        obtain ⟨a5, k5, rfl⟩ := row_slice hx
        have T5 := Lib.hid (T4.out.on hb)
        have Q5 := Lib.hid (intsAt_own hx)
        have X5 := Lib.hid (X4'.out.on hb)
        have Y5 := Lib.hid (Y4'.out.on hb)
        clear hx hb
        have T6 : Hid (Twq w (w5.alloc (.cells #[.int .i64 f, .int .i64 s, .int .i64 c, .slice a5 vs.length k5] 24)) f s c (.slice av vs.length kv) f2 s2 c2 (.slice au us.length ku)) := Lib.hid (T5.out.on (below_new _ _))
        obtain ⟨c0, c1, c2', c3⟩ := cells4 T6.out.2.1
        go_wp2_with fail
        refine (same_any ⟨f, s, c, vs⟩ ⟨f, s, c, vs⟩ _ _ _ (Q5.out.on (below_new _ _)) (HV.out.on T6.out.1) HL.out.1).mono ?_
        rw [sameB_iff.2 rfl]
        rintro e w7 ⟨rfl, hb⟩
        have T7 := Lib.hid (T6.out.on hb)
        have X7 := Lib.hid ((X5.out.on (below_new _ _)).on hb)
        have Y7 := Lib.hid ((Y5.out.on (below_new _ _)).on hb)
        have hx1 : (x.length : Int) ≤ 253 := by have := HLE.out.2; omega
        clear hb c0 c1 c2' c3
        obtain ⟨c0, c1, c2', c3⟩ := cells4 T7.out.2.1
        obtain ⟨e0, e1, e2, e3⟩ := cells4 T7.out.2.2
        have BE : Hid (Below w7.heap.size w7 w7.drew) := Lib.hid (Below.refl _ _).drew
        have TD := Lib.hid (T7.out.on BE.out)
        have XD := Lib.hid (X7.out.on BE.out)
        have YD := Lib.hid (Y7.out.on BE.out)
        have VD2 := Lib.hid (HV.out.on TD.out.1)
        have UD2 := Lib.hid (HU.out.on TD.out.1)
        have HEQ2 := HEQ
        generalize hsb : sameB ⟨f, s, c, vs⟩ ⟨f2, s2, c2, us⟩ = t at HEQ HEQ2
        have HSB := Lib.hid hsb
        clear hsb
        have htt : (t != t) = false := by simp
        go_wp2_with fail
        go_region_held3 (fun w' => w'.cell? ⟨w.heap.size, 0, none⟩ = some (.int .i64 f) ∧ w'.cell? ⟨w.heap.size, 1, none⟩ = some (.int .i64 s) ∧ w'.cell? ⟨w.heap.size, 2, none⟩ = some (.int .i64 c) ∧ w'.cell? ⟨w.heap.size, 3, none⟩ = some (.slice av vs.length kv) ∧ w'.cell? ⟨w.heap.size + 1, 0, none⟩ = some (.int .i64 f2) ∧ w'.cell? ⟨w.heap.size + 1, 1, none⟩ = some (.int .i64 s2) ∧ w'.cell? ⟨w.heap.size + 1, 2, none⟩ = some (.int .i64 c2) ∧ w'.cell? ⟨w.heap.size + 1, 3, none⟩ = some (.slice au us.length ku))
          (first
            | exact ⟨c0, c1, c2', c3, e0, e1, e2, e3⟩
            | exact ⟨d0, d1, d2, d3, f0, f1, f2', f3⟩
            | go_keep)
          (first
            | (go_at_call 16; refine (alike_any _ _ x y _ (by first | exact XD.out | exact XD.out.on X8.out) (by first | exact YD.out | exact YD.out.on X8.out)).mono ?_; rintro e w9 ⟨he, hw9⟩; rw [HEQ2.out] at he; subst he; subst hw9; simp only [])
            | (go_at_call 15; refine (same_any ⟨f, s, c, vs⟩ ⟨f2, s2, c2, us⟩ _ _ _ VD2.out UD2.out HL.out.1).mono ?_; rintro e w8 ⟨he, hb8⟩; rw [HSB.out] at he; subst he; have T8 := Lib.hid (TD.out.on hb8); have X8 := Lib.hid hb8; obtain ⟨d0, d1, d2, d3⟩ := cells4 T8.out.2.1; obtain ⟨f0, f1, f2', f3⟩ := cells4 T8.out.2.2; clear hb8; simp only []))
        all_goals
          clear c0 c1 c2' c3 e0 e1 e2 e3 d0 d1 d2 d3 f0 f1 f2' f3
          go_wp2_with fail
          rcases Bool.eq_false_or_eq_true (decB b) with hm2 | hm2
          · have HM2 := Lib.hid (decB_iff.1 hm2)
            have HD2 := Lib.hid hm2
            have HPL := Lib.hid (parseF_length b)
            clear hm2
            refine (dec_ok _ b w8 (HY.out.on T8.out.1) HL.out.2.2 HD2.out).mono ?_
            rintro e w5 ⟨v5, rfl, hx, hb⟩
            generalize parseF b = z at *
            obtain ⟨zf, zs, zc, zv⟩ := z
            unfold Rq.val
            dsimp only at hx HPL ⊢
            obtain ⟨a5, k5, rfl⟩ := row_slice hx
            have T5 := Lib.hid (T8.out.on hb)
            have X5 := Lib.hid (intsAt_own hx)
            clear hx hb
            have T6 : Hid (Twq w (w5.alloc (.cells #[.int .i64 zf, .int .i64 zs, .int .i64 zc, .slice a5 zv.length k5] 24)) f s c (.slice av vs.length kv) f2 s2 c2 (.slice au us.length ku)) := Lib.hid (T5.out.on (below_new _ _))
            have X6 : Hid (IntsAt (w5.alloc (.cells #[.int .i64 zf, .int .i64 zs, .int .i64 zc, .slice a5 zv.length k5] 24)) (.slice a5 zv.length k5) zv) := Lib.hid (X5.out.on (below_new _ _))
            go_wp2_with fail
            refine (enc_ok ⟨zf, zs, zc, zv⟩ _ _ X6.out HM2.out.1 (by show zv.length ≤ 100000; have := HPL.out; omega)).mono ?_
            intro e w7 h
            rw [HM2.out.2] at h
            obtain ⟨a7, k7, rfl, hx, _, hb⟩ := h.form
            have T7 := Lib.hid (T6.out.on hb)
            have X7 := Lib.hid hx
            clear h hx hb
            go_wp2_with fail
            refine (first_any w7).mono ?_
            rintro e w8 ⟨rfl, hb⟩
            have HB := Lib.hid (T7.out.1.trans (hb.mono T7.out.1.size))
            have X8 := Lib.hid (X7.out.on hb)
            clear hb
            go_wp2_with fail
            refine (alike_any _ _ _ _ w8 X8.out (HY.out.on HB.out)).mono ?_
            rintro e w9 ⟨rfl, rfl⟩
            rw [beq_self_eq_true]
            go_wp2
            go_ret
            exact ⟨rfl, HB.out⟩
          · have HM2 := Lib.hid hm2
            clear hm2
            refine (dec_no _ b w8 (HY.out.on T8.out.1) HL.out.2.2 HM2.out).mono ?_
            intro e w5 h
            obtain ⟨b5, rfl, hb⟩ := h.form
            have T5 := Lib.hid (T8.out.on hb)
            clear h hb
            unfold Rq.zero
            go_wp2_with fail
            refine (quit _ (T5.out.1.alloc T5.out.1.size _)).out.mono ?_
            rintro e wq ⟨rfl, hb⟩
            have HB := Lib.hid hb
            clear hb
            go_wp2
            go_ret
            exact ⟨rfl, HB.out⟩
    · have HN := Lib.hid hn
      clear hn
      refine (enc_no ⟨f2, s2, c2, us⟩ _ w2 (HU.out.on T2.out.1) HN.out HL.out.2.1).mono ?_
      intro e w3 h
      obtain ⟨b3, rfl, hb⟩ := h.form
      have T3 := Lib.hid (T2.out.on hb)
      have X3 := Lib.hid (X2.out.on hb)
      clear h hb e0 e1 e2 e3
      obtain ⟨c0, c1, c2', c3⟩ := cells4 T3.out.2.1
      have BD : Hid (Below w3.heap.size w3 w3.drew) := Lib.hid (Below.refl _ _).drew
      have hmm : mayB f s c vs = true := HM.out
      have VD := Lib.hid ((HV.out.on T3.out.1).on BD.out)
      go_wp2_with fail
      go_region_held3 (fun w' => w'.cell? ⟨w.heap.size, 0, none⟩ = some (.int .i64 f) ∧ w'.cell? ⟨w.heap.size, 1, none⟩ = some (.int .i64 s) ∧ w'.cell? ⟨w.heap.size, 2, none⟩ = some (.int .i64 c) ∧ w'.cell? ⟨w.heap.size, 3, none⟩ = some (.slice av vs.length kv))
        (first
          | exact ⟨c0, c1, c2', c3⟩
          | exact ⟨d0, d1, d2, d3⟩
          | go_keep)
        ((go_at_call 13; refine (may_any f s c _ vs _ VD.out HL.out.1).mono ?_; rintro e w4 ⟨rfl, hb4⟩; rw [hmm]; have T4 := Lib.hid (T3.out.on (BD.out.trans hb4)); have X4 := Lib.hid (BD.out.trans hb4); obtain ⟨d0, d1, d2, d3⟩ := cells4 T4.out.2.1; clear hb4; simp only []))
      all_goals
        clear hmm c0 c1 c2' c3 d0 d1 d2 d3
        have X4' := Lib.hid (X3.out.on X4.out)
        clear X4
        go_wp2_with fail
        refine (dec_ok _ x w4 X4'.out (by have := HLE.out; omega) HDE.out).mono ?_
        rw [HPE.out]
        rintro e w5 ⟨v5, rfl, hx, hb⟩
        unfold Rq.val
        dsimp only at hx ⊢
        obtain ⟨a5, k5, rfl⟩ := row_slice hx
        have T5 := Lib.hid (T4.out.on hb)
        have Q5 := Lib.hid (intsAt_own hx)
        clear hx hb
        have T6 : Hid (Twq w (w5.alloc (.cells #[.int .i64 f, .int .i64 s, .int .i64 c, .slice a5 vs.length k5] 24)) f s c (.slice av vs.length kv) f2 s2 c2 (.slice au us.length ku)) := Lib.hid (T5.out.on (below_new _ _))
        obtain ⟨c0, c1, c2', c3⟩ := cells4 T6.out.2.1
        go_wp2_with fail
        refine (same_any ⟨f, s, c, vs⟩ ⟨f, s, c, vs⟩ _ _ _ (Q5.out.on (below_new _ _)) (HV.out.on T6.out.1) HL.out.1).mono ?_
        rw [sameB_iff.2 rfl]
        rintro e w7 ⟨rfl, hb⟩
        have T7 := Lib.hid (T6.out.on hb)
        have hx1 : (x.length : Int) ≤ 253 := by have := HLE.out.2; omega
        clear hb c0 c1 c2' c3
        go_wp2_with fail
        go_quiet (fail)
        have T8 : ∀ n, Hid (Twq w (w7.drewN n) f s c (.slice av vs.length kv) f2 s2 c2 (.slice au us.length ku)) := fun n => Lib.hid (T7.out.on (below_drew w7 n))
        go_wp2_with fail
        rcases Bool.eq_false_or_eq_true (decB b) with hm2 | hm2
        · have HM2 := Lib.hid (decB_iff.1 hm2)
          have HD2 := Lib.hid hm2
          have HPL := Lib.hid (parseF_length b)
          clear hm2
          refine (dec_ok _ b _ (HY.out.on (T8 _).out.1) HL.out.2.2 HD2.out).mono ?_
          rintro e w5 ⟨v5, rfl, hx, hb⟩
          generalize parseF b = z at *
          obtain ⟨zf, zs, zc, zv⟩ := z
          unfold Rq.val
          dsimp only at hx HPL ⊢
          obtain ⟨a5, k5, rfl⟩ := row_slice hx
          have T5 := Lib.hid ((T8 _).out.on hb)
          have X5 := Lib.hid (intsAt_own hx)
          clear hx hb
          have T6 : Hid (Twq w (w5.alloc (.cells #[.int .i64 zf, .int .i64 zs, .int .i64 zc, .slice a5 zv.length k5] 24)) f s c (.slice av vs.length kv) f2 s2 c2 (.slice au us.length ku)) := Lib.hid (T5.out.on (below_new _ _))
          have X6 : Hid (IntsAt (w5.alloc (.cells #[.int .i64 zf, .int .i64 zs, .int .i64 zc, .slice a5 zv.length k5] 24)) (.slice a5 zv.length k5) zv) := Lib.hid (X5.out.on (below_new _ _))
          go_wp2_with fail
          refine (enc_ok ⟨zf, zs, zc, zv⟩ _ _ X6.out HM2.out.1 (by show zv.length ≤ 100000; have := HPL.out; omega)).mono ?_
          intro e w7 h
          rw [HM2.out.2] at h
          obtain ⟨a7, k7, rfl, hx, _, hb⟩ := h.form
          have T7 := Lib.hid (T6.out.on hb)
          have X7 := Lib.hid hx
          clear h hx hb
          go_wp2_with fail
          refine (first_any w7).mono ?_
          rintro e w8 ⟨rfl, hb⟩
          have HB := Lib.hid (T7.out.1.trans (hb.mono T7.out.1.size))
          have X8 := Lib.hid (X7.out.on hb)
          clear hb
          go_wp2_with fail
          refine (alike_any _ _ _ _ w8 X8.out (HY.out.on HB.out)).mono ?_
          rintro e w9 ⟨rfl, rfl⟩
          rw [beq_self_eq_true]
          go_wp2
          go_ret
          exact ⟨rfl, HB.out⟩
        · have HM2 := Lib.hid hm2
          clear hm2
          refine (dec_no _ b _ (HY.out.on (T8 _).out.1) HL.out.2.2 HM2.out).mono ?_
          intro e w5 h
          obtain ⟨b5, rfl, hb⟩ := h.form
          have T5 := Lib.hid ((T8 _).out.on hb)
          clear h hb
          unfold Rq.zero
          go_wp2_with fail
          refine (quit _ (T5.out.1.alloc T5.out.1.size _)).out.mono ?_
          rintro e wq ⟨rfl, hb⟩
          have HB := Lib.hid hb
          clear hb
          go_wp2
          go_ret
          exact ⟨rfl, HB.out⟩
  · have HM := Lib.hid hm
    clear hm
    refine (enc_no ⟨f, s, c, vs⟩ _ w1 (HV.out.on T1.out.1) HM.out HL.out.1).mono ?_
    intro e w2 h
    obtain ⟨b2, rfl, hb⟩ := h.form
    have T2 := Lib.hid (T1.out.on hb)
    clear h hb c0 c1 c2' c3 e0 e1 e2 e3
    obtain ⟨e0, e1, e2, e3⟩ := cells4 T2.out.2.2
    go_wp2_with fail
    rcases Bool.eq_false_or_eq_true (Rq.may ⟨f2, s2, c2, us⟩) with hn | hn
    · have HN := Lib.hid hn
      clear hn
      refine (enc_ok ⟨f2, s2, c2, us⟩ _ w2 (HU.out.on T2.out.1) HN.out HL.out.2.1).mono ?_
      intro e w3 h
      obtain ⟨a3, k3, rfl, hx, _, hb⟩ := h.form
      have T3 := Lib.hid (T2.out.on hb)
      clear h hx hb e0 e1 e2 e3
      generalize encF ⟨f2, s2, c2, us⟩ = y at *
      obtain ⟨c0, c1, c2', c3⟩ := cells4 T3.out.2.1
      have BD : Hid (Below w3.heap.size w3 w3.drew) := Lib.hid (Below.refl _ _).drew
      have hmm : mayB f s c vs = false := HM.out
      have VD := Lib.hid ((HV.out.on T3.out.1).on BD.out)
      go_wp2_with fail
      go_region_held3 (fun w' => w'.cell? ⟨w.heap.size, 0, none⟩ = some (.int .i64 f) ∧ w'.cell? ⟨w.heap.size, 1, none⟩ = some (.int .i64 s) ∧ w'.cell? ⟨w.heap.size, 2, none⟩ = some (.int .i64 c) ∧ w'.cell? ⟨w.heap.size, 3, none⟩ = some (.slice av vs.length kv))
        (first
          | exact ⟨c0, c1, c2', c3⟩
          | exact ⟨d0, d1, d2, d3⟩
          | go_keep)
        ((go_at_call 13; refine (may_any f s c _ vs _ VD.out HL.out.1).mono ?_; rintro e w4 ⟨rfl, hb4⟩; rw [hmm]; have T4 := Lib.hid (T3.out.on (BD.out.trans hb4)); have X4 := Lib.hid (BD.out.trans hb4); obtain ⟨d0, d1, d2, d3⟩ := cells4 T4.out.2.1; clear hb4; simp only []))
      all_goals
        clear hmm c0 c1 c2' c3 d0 d1 d2 d3
        go_wp2_with fail
        go_quiet (fail)
        have T8 : ∀ n, Hid (Twq w (w4.drewN n) f s c (.slice av vs.length kv) f2 s2 c2 (.slice au us.length ku)) := fun n => Lib.hid (T4.out.on (below_drew w4 n))
        go_wp2_with fail
        rcases Bool.eq_false_or_eq_true (decB b) with hm2 | hm2
        · have HM2 := Lib.hid (decB_iff.1 hm2)
          have HD2 := Lib.hid hm2
          have HPL := Lib.hid (parseF_length b)
          clear hm2
          refine (dec_ok _ b _ (HY.out.on (T8 _).out.1) HL.out.2.2 HD2.out).mono ?_
          rintro e w5 ⟨v5, rfl, hx, hb⟩
          generalize parseF b = z at *
          obtain ⟨zf, zs, zc, zv⟩ := z
          unfold Rq.val
          dsimp only at hx HPL ⊢
          obtain ⟨a5, k5, rfl⟩ := row_slice hx
          have T5 := Lib.hid ((T8 _).out.on hb)
          have X5 := Lib.hid (intsAt_own hx)
          clear hx hb
          have T6 : Hid (Twq w (w5.alloc (.cells #[.int .i64 zf, .int .i64 zs, .int .i64 zc, .slice a5 zv.length k5] 24)) f s c (.slice av vs.length kv) f2 s2 c2 (.slice au us.length ku)) := Lib.hid (T5.out.on (below_new _ _))
          have X6 : Hid (IntsAt (w5.alloc (.cells #[.int .i64 zf, .int .i64 zs, .int .i64 zc, .slice a5 zv.length k5] 24)) (.slice a5 zv.length k5) zv) := Lib.hid (X5.out.on (below_new _ _))
          go_wp2_with fail
          refine (enc_ok ⟨zf, zs, zc, zv⟩ _ _ X6.out HM2.out.1 (by show zv.length ≤ 100000; have := HPL.out; omega)).mono ?_
          intro e w7 h
          rw [HM2.out.2] at h
          obtain ⟨a7, k7, rfl, hx, _, hb⟩ := h.form
          have T7 := Lib.hid (T6.out.on hb)
          have X7 := Lib.hid hx
          clear h hx hb
          go_wp2_with fail
          refine (first_any w7).mono ?_
          rintro e w8 ⟨rfl, hb⟩
          have HB := Lib.hid (T7.out.1.trans (hb.mono T7.out.1.size))
          have X8 := Lib.hid (X7.out.on hb)
          clear hb
          go_wp2_with fail
          refine (alike_any _ _ _ _ w8 X8.out (HY.out.on HB.out)).mono ?_
          rintro e w9 ⟨rfl, rfl⟩
          rw [beq_self_eq_true]
          go_wp2
          go_ret
          exact ⟨rfl, HB.out⟩
        · have HM2 := Lib.hid hm2
          clear hm2
          refine (dec_no _ b _ (HY.out.on (T8 _).out.1) HL.out.2.2 HM2.out).mono ?_
          intro e w5 h
          obtain ⟨b5, rfl, hb⟩ := h.form
          have T5 := Lib.hid ((T8 _).out.on hb)
          clear h hb
          unfold Rq.zero
          go_wp2_with fail
          refine (quit _ (T5.out.1.alloc T5.out.1.size _)).out.mono ?_
          rintro e wq ⟨rfl, hb⟩
          have HB := Lib.hid hb
          clear hb
          go_wp2
          go_ret
          exact ⟨rfl, HB.out⟩
    · have HN := Lib.hid hn
      clear hn
      refine (enc_no ⟨f2, s2, c2, us⟩ _ w2 (HU.out.on T2.out.1) HN.out HL.out.2.1).mono ?_
      intro e w3 h
      obtain ⟨b3, rfl, hb⟩ := h.form
      have T3 := Lib.hid (T2.out.on hb)
      clear h hb e0 e1 e2 e3
      obtain ⟨c0, c1, c2', c3⟩ := cells4 T3.out.2.1
      have BD : Hid (Below w3.heap.size w3 w3.drew) := Lib.hid (Below.refl _ _).drew
      have hmm : mayB f s c vs = false := HM.out
      have VD := Lib.hid ((HV.out.on T3.out.1).on BD.out)
      go_wp2_with fail
      go_region_held3 (fun w' => w'.cell? ⟨w.heap.size, 0, none⟩ = some (.int .i64 f) ∧ w'.cell? ⟨w.heap.size, 1, none⟩ = some (.int .i64 s) ∧ w'.cell? ⟨w.heap.size, 2, none⟩ = some (.int .i64 c) ∧ w'.cell? ⟨w.heap.size, 3, none⟩ = some (.slice av vs.length kv))
        (first
          | exact ⟨c0, c1, c2', c3⟩
          | exact ⟨d0, d1, d2, d3⟩
          | go_keep)
        ((go_at_call 13; refine (may_any f s c _ vs _ VD.out HL.out.1).mono ?_; rintro e w4 ⟨rfl, hb4⟩; rw [hmm]; have T4 := Lib.hid (T3.out.on (BD.out.trans hb4)); have X4 := Lib.hid (BD.out.trans hb4); obtain ⟨d0, d1, d2, d3⟩ := cells4 T4.out.2.1; clear hb4; simp only []))
      all_goals
        clear hmm c0 c1 c2' c3 d0 d1 d2 d3
        go_wp2_with fail
        go_quiet (fail)
        have T8 : ∀ n, Hid (Twq w (w4.drewN n) f s c (.slice av vs.length kv) f2 s2 c2 (.slice au us.length ku)) := fun n => Lib.hid (T4.out.on (below_drew w4 n))
        go_wp2_with fail
        rcases Bool.eq_false_or_eq_true (decB b) with hm2 | hm2
        · have HM2 := Lib.hid (decB_iff.1 hm2)
          have HD2 := Lib.hid hm2
          have HPL := Lib.hid (parseF_length b)
          clear hm2
          refine (dec_ok _ b _ (HY.out.on (T8 _).out.1) HL.out.2.2 HD2.out).mono ?_
          rintro e w5 ⟨v5, rfl, hx, hb⟩
          generalize parseF b = z at *
          obtain ⟨zf, zs, zc, zv⟩ := z
          unfold Rq.val
          dsimp only at hx HPL ⊢
          obtain ⟨a5, k5, rfl⟩ := row_slice hx
          have T5 := Lib.hid ((T8 _).out.on hb)
          have X5 := Lib.hid (intsAt_own hx)
          clear hx hb
          have T6 : Hid (Twq w (w5.alloc (.cells #[.int .i64 zf, .int .i64 zs, .int .i64 zc, .slice a5 zv.length k5] 24)) f s c (.slice av vs.length kv) f2 s2 c2 (.slice au us.length ku)) := Lib.hid (T5.out.on (below_new _ _))
          have X6 : Hid (IntsAt (w5.alloc (.cells #[.int .i64 zf, .int .i64 zs, .int .i64 zc, .slice a5 zv.length k5] 24)) (.slice a5 zv.length k5) zv) := Lib.hid (X5.out.on (below_new _ _))
          go_wp2_with fail
          refine (enc_ok ⟨zf, zs, zc, zv⟩ _ _ X6.out HM2.out.1 (by show zv.length ≤ 100000; have := HPL.out; omega)).mono ?_
          intro e w7 h
          rw [HM2.out.2] at h
          obtain ⟨a7, k7, rfl, hx, _, hb⟩ := h.form
          have T7 := Lib.hid (T6.out.on hb)
          have X7 := Lib.hid hx
          clear h hx hb
          go_wp2_with fail
          refine (first_any w7).mono ?_
          rintro e w8 ⟨rfl, hb⟩
          have HB := Lib.hid (T7.out.1.trans (hb.mono T7.out.1.size))
          have X8 := Lib.hid (X7.out.on hb)
          clear hb
          go_wp2_with fail
          refine (alike_any _ _ _ _ w8 X8.out (HY.out.on HB.out)).mono ?_
          rintro e w9 ⟨rfl, rfl⟩
          rw [beq_self_eq_true]
          go_wp2
          go_ret
          exact ⟨rfl, HB.out⟩
        · have HM2 := Lib.hid hm2
          clear hm2
          refine (dec_no _ b _ (HY.out.on (T8 _).out.1) HL.out.2.2 HM2.out).mono ?_
          intro e w5 h
          obtain ⟨b5, rfl, hb⟩ := h.form
          have T5 := Lib.hid ((T8 _).out.on hb)
          clear h hb
          unfold Rq.zero
          go_wp2_with fail
          refine (quit _ (T5.out.1.alloc T5.out.1.size _)).out.mono ?_
          rintro e wq ⟨rfl, hb⟩
          have HB := Lib.hid hb
          clear hb
          go_wp2
          go_ret
          exact ⟨rfl, HB.out⟩
end Go.Proofs.Ytaebbfdgchamaaa
