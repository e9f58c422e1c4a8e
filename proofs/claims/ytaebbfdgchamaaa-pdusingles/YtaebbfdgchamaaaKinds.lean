/- yardlaw7.PduKinds answers true for every four numbers; memory that was there stands. -/
import Derived.Test.YtaebbfdgchamaaaOthers
import Derived.Test.YtaebbfdgchamaaaSpec2
import Derived.Deep.QuietTactic
import Derived.BigQuiet
namespace Go.Proofs.Ytaebbfdgchamaaa
open Go.RowKit Go.Extern.Stop Go.Stop Go.Extern

theorem idx {w : World} {b off n cap : Nat} {l : List UInt8} (h : BytesAt w (.slice (some ⟨b, off, none⟩) n cap) l) (i : Nat) (hi : i < l.length) : w.cell? ⟨b, off + i, none⟩ = some (.int .u8 (l[i].toNat : Int)) := by
  obtain ⟨ao, cap', e, hc⟩ := h
  simp only [Value.slice.injEq] at e
  obtain ⟨rfl, _, _⟩ := e
  obtain ⟨b', off', e', h'⟩ := hc i hi
  simp only [Option.some.injEq, Addr.mk.injEq] at e'
  obtain ⟨rfl, rfl, _⟩ := e'
  exact h'
theorem some_of' {w : World} {a : Option Addr} {n c : Nat} {l : List UInt8} (h : BytesAt w (.slice a n c) l) (hl : 0 < l.length) : ∃ b off, a = some ⟨b, off, none⟩ := by
  obtain ⟨ao, cap, e, hc⟩ := h
  simp only [Value.slice.injEq] at e
  obtain ⟨rfl, _, _⟩ := e
  obtain ⟨b, off, h1, _⟩ := hc 0 hl
  exact ⟨b, off, h1⟩
theorem ansF_exc {r : Rq} {code : Int} (h : r.may = true) (h1 : 1 ≤ code) (h2 : code ≤ 255) : ∃ y z : UInt8, ansF r ⟨code, []⟩ = [y, z] ∧ (y.toNat : Int) = r.f + 128 ∧ (z.toNat : Int) = code := by
  have hf := f_ok h
  obtain ⟨y, e0, h0⟩ := be_one_num (x := r.f + 128) (by omega) (by omega)
  obtain ⟨z, e3, h3⟩ := be_one_num (x := code) (by omega) (by omega)
  exact ⟨y, z, by unfold ansF; rw [if_neg (by show ¬ code = 0; omega), e0, e3]; rfl, h0, h3⟩

set_option maxRecDepth 100000 in
set_option maxHeartbeats 4000000 in
theorem kinds_any (f s c code : Int) (w : World) : Calls Try.prog 5 #[.int .i64 f, .int .i64 s, .int .i64 c, .int .i64 code] w (Holds w) := by
  go_enter Try.func5, Try.ntmps5
  go_wp2_with fail
  refine (first_any w).mono ?_
  rintro e w1 ⟨rfl, hb⟩
  have B1 := Lib.hid hb
  clear hb
  have quit : ∀ (W : World), Below w.heap.size w W → Hid (Calls Try.prog 11 #[] W (Holds w)) := fun W h => Lib.hid ((first_any W).mono fun e w' h' => ⟨h'.1, h.trans (h'.2.mono h.size)⟩)
  have X2 : Hid (Below w.heap.size w (w1.alloc (.cells #[.int .i64 f, .int .i64 s, .int .i64 c, .slice none 0 0] 24))) := Lib.hid (B1.out.alloc B1.out.size _)
  have R2 : Hid (BoxR (w1.alloc (.cells #[.int .i64 f, .int .i64 s, .int .i64 c, .slice none 0 0] 24)) w1.heap.size f s c (.slice none 0 0)) := Lib.hid (heap_alloc_new w1 _)
  by_cases h1 : f < 1
  · go_wp2_with fail
    refine (quit _ X2.out).out.mono ?_
    rintro e wq ⟨rfl, hb⟩
    have HB := Lib.hid hb
    clear hb
    go_wp2
    go_ret
    exact ⟨rfl, HB.out⟩
  by_cases h2 : 4 < f
  · go_wp2_with fail
    refine (quit _ X2.out).out.mono ?_
    rintro e wq ⟨rfl, hb⟩
    have HB := Lib.hid hb
    clear hb
    go_wp2
    go_ret
    exact ⟨rfl, HB.out⟩
  have h3 : 1 ≤ f := by omega
  have h4 : f ≤ 4 := by omega
  clear h1 h2
  go_wp2_with fail
  refine (may_any f s c _ [] _ (ints_nil _) (by simp)).mono ?_
  rintro e w3 ⟨rfl, hb⟩
  have X3 := Lib.hid (X2.out.trans (hb.mono X2.out.size))
  have R3 := Lib.hid (R2.out.on hb)
  clear hb
  rcases Bool.eq_false_or_eq_true (mayB f s c []) with hm | hm
  · have HM : Hid (Rq.may ⟨f, s, c, []⟩ = true) := Lib.hid hm
    rw [hm]
    obtain ⟨b0, b1, b2, b3, b4, eh, q0, q1, q2⟩ := head_bytes HM.out
    have HE : Hid (encF ⟨f, s, c, []⟩ = [b0, b1, b2, b3, b4]) := Lib.hid (by unfold encF; rw [eh, if_neg (by dsimp only; omega)]; rfl)
    have HW : Hid (wordF ⟨f, s, c, []⟩ = c) := Lib.hid (by unfold wordF; rw [if_neg (by dsimp only; omega), if_neg (by dsimp only; omega)])
    rw [HW.out] at q2
    dsimp only at q0 q1
    clear hm eh
    obtain ⟨c0, c1, c2, c3⟩ := cells4 R3.out
    go_wp2_with fail
    refine (enc_ok ⟨f, s, c, []⟩ _ w3 (ints_nil _) HM.out (by simp)).mono ?_
    intro e w4 h
    rw [HE.out] at h
    obtain ⟨a4, k4, rfl, hx, _, hb⟩ := h.form
    obtain ⟨g4, o4, rfl⟩ := some_of' hx (by simp)
    have X4 := Lib.hid (X3.out.trans (hb.mono X3.out.size))
    have R4 := Lib.hid (R3.out.on hb)
    have i0 := idx hx 0 (by simp)
    have i1 := idx hx 1 (by simp)
    have i2 := idx hx 2 (by simp)
    have i3 := idx hx 3 (by simp)
    have i4 := idx hx 4 (by simp)
    simp only [List.getElem_cons_zero, List.getElem_cons_succ, Nat.add_zero] at i0 i1 i2 i3 i4
    have l0 := byte_lt b0
    have l1 := byte_lt b1
    have l2 := byte_lt b2
    have l3 := byte_lt b3
    have l4 := byte_lt b4
    generalize b0.toNat = z0 at *
    generalize b1.toNat = z1 at *
    generalize b2.toNat = z2 at *
    generalize b3.toNat = z3 at *
    generalize b4.toNat = z4 at *
    clear h hx hb c0 c1 c2 c3 HE
    have t0 : ((z0 : Int) != f) = false := by simp; omega
    have t1 : (256 * (z1 : Int) + (z2 : Int) != s) = false := by simp; omega
    have t2 : (256 * (z3 : Int) + (z4 : Int) != c) = false := by simp; omega
    have w1' : IntKind.i64.wrap (z0 : Int) = (z0 : Int) := IntWalk.i64_in _ (by omega)
    have w2' : IntKind.i64.wrap (z1 : Int) = (z1 : Int) := IntWalk.i64_in _ (by omega)
    have w3' : IntKind.i64.wrap (z2 : Int) = (z2 : Int) := IntWalk.i64_in _ (by omega)
    have w4' : IntKind.i64.wrap (z3 : Int) = (z3 : Int) := IntWalk.i64_in _ (by omega)
    have w5' : IntKind.i64.wrap (z4 : Int) = (z4 : Int) := IntWalk.i64_in _ (by omega)
    have w6' : IntKind.i64.wrap (256 * (z1 : Int)) = 256 * (z1 : Int) := IntWalk.i64_in _ (by omega)
    have w7' : IntKind.i64.wrap (256 * (z3 : Int)) = 256 * (z3 : Int) := IntWalk.i64_in _ (by omega)
    have w8' : IntKind.i64.wrap (256 * (z1 : Int) + (z2 : Int)) = 256 * (z1 : Int) + (z2 : Int) := IntWalk.i64_in _ (by omega)
    have w9' : IntKind.i64.wrap (256 * (z3 : Int) + (z4 : Int)) = 256 * (z3 : Int) + (z4 : Int) := IntWalk.i64_in _ (by omega)
    clear q0 q1 q2
    go_wp2_with fail
    go_quiet (fail)
    clear t0 t1 t2 w1' w2' w3' w4' w5' w6' w7' w8' w9' i0 i1 i2 i3 i4 l0 l1 l2 l3 l4
    have X5 : ∀ n, Hid (Below w.heap.size w (w4.drewN n)) := fun n => Lib.hid (below_drewN X4.out n)
    have R5 : ∀ n, Hid (BoxR (w4.drewN n) w1.heap.size f s c (.slice none 0 0)) := fun n => Lib.hid (R4.out.on (below_drew w4 n))
    have R6 := fun n => cells4 (R5 n).out
    go_wp2_with fail
    by_cases hcode : 1 ≤ code ∧ code ≤ 255
    · obtain ⟨k1, k2⟩ := hcode
      have HMR : Hid (mayR ⟨f, s, c, []⟩ ⟨code, []⟩ = true) := Lib.hid (by
        unfold mayR
        rw [Bool.and_eq_true, within_iff, areV_iff]
        refine ⟨⟨by dsimp only; omega, by dsimp only; omega⟩, ?_, fun v hv => by simp at hv⟩
        rw [if_neg (fun h => by have := h.1; dsimp only at this; omega)]
        rfl)
      obtain ⟨y, z, ea, qy, qz⟩ := ansF_exc HM.out k1 k2
      have HA := Lib.hid ea
      dsimp only at qy
      clear ea
      refine (ans_ok ⟨f, s, c, []⟩ ⟨code, []⟩ _ _ _ (ints_nil _) (ints_nil _) HM.out HMR.out (by simp) (by simp)).mono ?_
      intro e w6 h
      rw [HA.out] at h
      obtain ⟨a6, k6, rfl, hx, _, hb⟩ := h.form
      obtain ⟨g6, o6, rfl⟩ := some_of' hx (by simp)
      have X6 := Lib.hid ((X5 _).out.trans (hb.mono (X5 _).out.size))
      have Z6 := Lib.hid hx
      clear h hx hb R6
      have ly := byte_lt y
      have lz := byte_lt z
      go_wp2_with fail
      refine (first_any w6).mono ?_
      rintro e w7 ⟨rfl, hb⟩
      have X7 := Lib.hid (X6.out.trans (hb.mono X6.out.size))
      have Z7 := Z6.out.on hb
      have i0 := idx Z7 0 (by simp)
      have i1 := idx Z7 1 (by simp)
      simp only [List.getElem_cons_zero, List.getElem_cons_succ, Nat.add_zero] at i0 i1
      clear hb Z7 Z6 HA
      generalize y.toNat = zy at *
      generalize z.toNat = zz at *
      have t0 : ((zy : Int) == f + 128) = true := by simp; omega
      have t1 : ((zz : Int) == code) = true := by simp; omega
      clear qy qz
      go_wp2
      go_ret
      exact ⟨rfl, X7.out⟩
    · have HMR : Hid ((Rq.may ⟨f, s, c, []⟩ && mayR ⟨f, s, c, []⟩ ⟨code, []⟩) = false) := Lib.hid (by
        rw [HM.out, Bool.true_and, ← Bool.not_eq_true]
        intro ht
        have h5 := HM.out
        cases rkind_of HM.out ht with
        | exc hc hv => exact hcode hc
        | read hc hr hl hv hd =>
          have h6 := (may_iff.1 HM.out).1
          have h7 : ((0 : Nat) : Int) = c := hl
          dsimp only at h6
          omega
        | done hc hr hv =>
          have : fReads f = true := by unfold fReads; simp; omega
          rw [this] at hr
          cases hr)
      refine (ans_no ⟨f, s, c, []⟩ ⟨code, []⟩ _ _ _ (ints_nil _) (ints_nil _) HMR.out (by simp) (by simp)).mono ?_
      intro e w6 h
      obtain ⟨b6, rfl, hb⟩ := h.form
      have X6 := Lib.hid ((X5 _).out.trans (hb.mono (X5 _).out.size))
      clear h hb R6
      by_cases k1 : code < 1
      · go_wp2_with fail
        refine (first_any w6).mono ?_
        rintro e w7 ⟨rfl, hb⟩
        have X7 := Lib.hid (X6.out.trans (hb.mono X6.out.size))
        clear hb
        go_wp2
        go_ret
        exact ⟨rfl, X7.out⟩
      · have k2 : 255 < code := by omega
        go_wp2_with fail
        refine (first_any w6).mono ?_
        rintro e w7 ⟨rfl, hb⟩
        have X7 := Lib.hid (X6.out.trans (hb.mono X6.out.size))
        clear hb
        go_wp2
        go_ret
        exact ⟨rfl, X7.out⟩
  · rw [hm]
    clear hm
    go_wp2_with fail
    refine (quit _ X3.out).out.mono ?_
    rintro e wq ⟨rfl, hb⟩
    have HB := Lib.hid hb
    clear hb
    go_wp2
    go_ret
    exact ⟨rfl, HB.out⟩
end Go.Proofs.Ytaebbfdgchamaaa
