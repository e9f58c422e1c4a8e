/- yardlaw7.PduBits answers true for every request and every number; memory that was there stands. -/
import Derived.Test.YtaebbfdgchamaaaKinds
import Derived.Deep.RegionHeld3
namespace Go.Proofs.Ytaebbfdgchamaaa
open Go.RowKit Go.Extern.Stop Go.Stop Go.Extern

theorem and_one' (y q : Nat) (hy : y < 256) : bits .and .i64 ((y : Int) / 2 ^ q) 1 = ((y / 2 ^ q % 2 : Nat) : Int) := by
  have h1 : y / 2 ^ q ≤ y := Nat.div_le_self _ _
  have e : (y : Int) / 2 ^ q = ((y / 2 ^ q : Nat) : Int) := by simp
  rw [← and_one y q hy, e]
  generalize y / 2 ^ q = z at h1 ⊢
  rw [show wrap64 (z : Int) = (z : Int) by unfold wrap64; omega]
/-- A box that holds a request alone. -/
def One (w W : World) (f s c : Int) (v : Value) : Prop := Below w.heap.size w W ∧ BoxR W w.heap.size f s c v
theorem one_new (w : World) (f s c : Int) (v : Value) : One w (w.alloc (.cells #[.int .i64 f, .int .i64 s, .int .i64 c, v] 24)) f s c v := ⟨below_new w _, heap_alloc_new w _⟩
theorem One.on {w W W' : World} {f s c : Int} {v : Value} (h : One w W f s c v) (hb : Below W.heap.size W W') : One w W' f s c v := ⟨h.1.trans (hb.mono h.1.size), h.2.on hb⟩
theorem pack_bit {l : List Int} (h : Bits l) (i : Nat) (hi : i < l.length) (hj : i / 8 < (packB l).length) : ((packB l)[i / 8].toNat / 2 ^ (i % 8) % 2 : Nat) = (l[i]).toNat := by
  have e1 : (packB l)[i / 8] = UInt8.ofNat (pkAt l (i / 8)) := by simp [packB]
  have h3 := pkAt_lt h (i / 8)
  rw [e1, UInt8.toNat_ofNat', Nat.mod_eq_of_lt h3]
  unfold pkAt
  rw [bitsN_get _ _ (bits_take (bits_drop h _) _)]
  have e2 : (List.take 8 (List.drop (8 * (i / 8)) l)).getD (i % 8) 0 = l[i] := by
    simp only [List.getD]
    rw [List.getElem?_take, if_pos (by omega), List.getElem?_drop, show 8 * (i / 8) + i % 8 = i by omega, List.getElem?_eq_getElem hi]
    rfl
  rw [e2]
theorem word_at {l : List Int} (h : Words l) (i : Nat) (hi : i < l.length) (h0 : 2 * i < (wordsB l).length) (h1 : 2 * i + 1 < (wordsB l).length) : 256 * ((wordsB l)[2 * i].toNat : Int) + ((wordsB l)[2 * i + 1].toNat : Int) = l[i] := by
  have e := wordsB_at l i hi
  have hx := h l[i] (List.getElem_mem hi)
  obtain ⟨y, z, e2, q⟩ := be_two_num (x := l[i]) hx.1 (by omega)
  rw [e2] at e
  have a0 := congrArg (fun l : List UInt8 => l[0]?) e
  have a1 := congrArg (fun l : List UInt8 => l[1]?) e
  simp only [List.getElem?_take, List.getElem?_drop, List.getElem?_cons_zero, List.getElem?_cons_succ] at a0 a1
  simp [h0, h1] at a0 a1
  rw [a0, a1]
  exact q

set_option maxRecDepth 100000 in
set_option maxHeartbeats 4000000 in
theorem bits_any (r : Rq) (v : Value) (i : Int) (w : World) (hv : IntsAt w v r.vs) : Calls Try.prog 9 #[r.val v, .int .i64 i] w (Holds w) := by
  obtain ⟨f, s, c, vs⟩ := r
  unfold Rq.val
  dsimp only at hv ⊢
  have HV := Lib.hid hv
  obtain ⟨av, kv, rfl, _⟩ := id hv
  clear hv
  obtain ⟨wx, hwx⟩ : ∃ wx, wx = w.alloc (.cells #[.int .i64 f, .int .i64 s, .int .i64 c, .slice av vs.length kv] 24) := ⟨_, rfl⟩
  have T0 : Hid (One w wx f s c (.slice av vs.length kv)) := Lib.hid (by rw [hwx]; exact one_new _ _ _ _ _)
  go_enter Try.func9, Try.ntmps9
  go_wp2_with fail
  rw [← hwx]
  clear hwx
  refine (first_any wx).mono ?_
  rintro e w1 ⟨rfl, hb⟩
  have T1 := Lib.hid (T0.out.on hb)
  clear hb
  obtain ⟨c0, c1, c2, c3⟩ := cells4 T1.out.2
  have quit : ∀ (W : World), Below w.heap.size w W → Hid (Calls Try.prog 11 #[] W (Holds w)) := fun W h => Lib.hid ((first_any W).mono fun e w' h' => ⟨h'.1, h.trans (h'.2.mono h.size)⟩)
  by_cases h1 : (3000 : Int) < (vs.length : Int)
  · go_wp2_with fail
    refine (quit _ T1.out.1).out.mono ?_
    rintro e wq ⟨rfl, hb⟩
    have HB := Lib.hid hb
    clear hb
    go_wp2
    go_ret
    exact ⟨rfl, HB.out⟩
  by_cases h2 : f < 15
  · go_wp2_with fail
    refine (quit _ T1.out.1).out.mono ?_
    rintro e wq ⟨rfl, hb⟩
    have HB := Lib.hid hb
    clear hb
    go_wp2
    go_ret
    exact ⟨rfl, HB.out⟩
  by_cases h3 : i < 0
  · go_wp2_with fail
    refine (quit _ T1.out.1).out.mono ?_
    rintro e wq ⟨rfl, hb⟩
    have HB := Lib.hid hb
    clear hb
    go_wp2
    go_ret
    exact ⟨rfl, HB.out⟩
  by_cases h4 : (vs.length : Int) ≤ i
  · go_wp2_with fail
    refine (quit _ T1.out.1).out.mono ?_
    rintro e wq ⟨rfl, hb⟩
    have HB := Lib.hid hb
    clear hb
    go_wp2
    go_ret
    exact ⟨rfl, HB.out⟩
  obtain ⟨n, rfl⟩ := Int.eq_ofNat_of_zero_le (show 0 ≤ i by omega)
  have HL : Hid (vs.length ≤ 100000 ∧ n < vs.length ∧ 15 ≤ f) := Lib.hid (by omega)
  go_wp2_with fail
  rcases Bool.eq_false_or_eq_true (Rq.may ⟨f, s, c, vs⟩) with hm | hm
  · have HM := Lib.hid hm
    clear hm
    refine (enc_ok ⟨f, s, c, vs⟩ _ w1 (HV.out.on T1.out.1) HM.out HL.out.1).mono ?_
    intro e w2 h
    obtain ⟨a2, k2, rfl, hx, _, hb⟩ := h.form
    have T2 := Lib.hid (T1.out.on hb)
    have HLE := Lib.hid (encF_length HM.out)
    obtain ⟨b0, b1, b2, b3, b4, eh, q0, q1, q2⟩ := head_bytes HM.out
    obtain ⟨hf, hc, hd, hdl, hvo⟩ : (f = 15 ∨ f = 16) ∧ c = vs.length ∧ (dataF f vs).length ≤ 246 ∧ 1 ≤ vs.length ∧ ValsOk f vs := by
      cases kind_of HM.out with
      | many hf hc hc1 hc2 hs hv hd => exact ⟨hf, hc, hd, hc1, hv⟩
      | read hf => have := HL.out.2.2; dsimp only at hf; omega
      | bit hf => have := HL.out.2.2; dsimp only at hf; omega
      | reg hf => have := HL.out.2.2; dsimp only at hf; omega
    obtain ⟨b5, e5, q5⟩ := be_one_num (x := ((dataF f vs).length : Int)) (by omega) (by omega)
    have HE : encF ⟨f, s, c, vs⟩ = b0 :: b1 :: b2 :: b3 :: b4 :: b5 :: dataF f vs := by
      unfold encF putF
      rw [eh, if_pos hf, e5]
      rfl
    have hw : wordF ⟨f, s, c, vs⟩ = vs.length := by unfold wordF; rw [if_neg (by dsimp only; omega), if_neg (by dsimp only; omega)]; exact hc
    rw [hw] at q2
    rw [HE] at hx ⊢
    clear h hb c0 c1 c2 c3 eh HLE q0 q1
    obtain ⟨g2, o2, rfl⟩ := some_of' hx (by simp)
    have i3 := idx hx 3 (by simp)
    have i4 := idx hx 4 (by simp)
    have i5 := idx hx 5 (by simp)
    have hdat : ∀ j (hj : j < (dataF f vs).length), w2.cell? ⟨g2, o2 + (6 + j), none⟩ = some (.int .u8 ((dataF f vs)[j].toNat : Int)) := fun j hj => by
      have := idx hx (6 + j) (by simp; omega)
      rw [this]
      congr 4
      simp [show 6 + j = j + 6 by omega]
    simp only [List.getElem_cons_zero, List.getElem_cons_succ] at i3 i4 i5
    have HX := Lib.hid hx
    have l3 := byte_lt b3
    have l4 := byte_lt b4
    have l5 := byte_lt b5
    have HDL := Lib.hid hd
    have HDAT := Lib.hid hdat
    obtain ⟨D, hD⟩ : ∃ D, D = (dataF f vs).length := ⟨_, rfl⟩
    have HDD := Lib.hid hD
    obtain ⟨M, hM⟩ : ∃ M, M = D + 6 := ⟨_, rfl⟩
    rw [show (b0 :: b1 :: b2 :: b3 :: b4 :: b5 :: dataF f vs).length = M by rw [hM, hD]; rfl] at HX ⊢
    rw [← hD] at q5
    clear hx hdat hd hD HE e5
    generalize b3.toNat = z3 at *
    generalize b4.toNat = z4 at *
    generalize b5.toNat = z5 at *
    have hz5 : z5 = D := by omega
    subst hz5
    have hD1 : z5 ≤ 246 := by have := HDL.out; have := HDD.out; omega
    have t2 : (256 * (z3 : Int) + (z4 : Int) != (vs.length : Int)) = false := by simp; omega
    have w1' : IntKind.i64.wrap (z3 : Int) = (z3 : Int) := IntWalk.i64_in _ (by omega)
    have w2' : IntKind.i64.wrap (z4 : Int) = (z4 : Int) := IntWalk.i64_in _ (by omega)
    have w3' : IntKind.i64.wrap (z5 : Int) = (z5 : Int) := IntWalk.i64_in _ (by omega)
    have w4' : IntKind.i64.wrap (256 * (z3 : Int)) = 256 * (z3 : Int) := IntWalk.i64_in _ (by omega)
    have w5' : IntKind.i64.wrap (256 * (z3 : Int) + (z4 : Int)) = 256 * (z3 : Int) + (z4 : Int) := IntWalk.i64_in _ (by omega)
    have w6' : IntKind.i64.wrap ((M : Int) - 6) = (z5 : Int) := by rw [IntWalk.i64_in _ (by omega)]; omega
    have w7' : decide ((M : Int) < 6) = false := by simp; omega
    have m3 : 3 < M := by omega
    have m4 : 4 < M := by omega
    have m5 : 5 < M := by omega
    have HM2 := Lib.hid hM
    have m6 : (6 : Int) ≤ (M : Int) := by omega
    clear hM
    clear q2 q5
    obtain ⟨c0, c1, c2, c3⟩ := cells4 T2.out.2
    go_wp2_with fail
    go_quiet (fail)
    clear t2 w1' w2' w3' w4' w5' w6' w7' i3 i4 i5 l3 l4 l5 c0 c1 c2 c3
    rename_i nq
    have T3 : Hid (One w (w2.drewN nq) f s c (.slice av vs.length kv)) := Lib.hid (T2.out.on (below_drew w2 nq))
    have B3 : Hid (Below w2.heap.size w2 (w2.drewN nq)) := Lib.hid (below_drew w2 nq)
    generalize w2.drewN nq = w3 at *
    obtain ⟨c0, c1, c2, c3⟩ := cells4 T3.out.2
    obtain ⟨bv, ov, eav, hcv⟩ : ∃ bv ov, av = some ⟨bv, ov, none⟩ ∧ w.cell? ⟨bv, ov + n, none⟩ = some (.int .i64 (vs[n]'HL.out.2.1)) := by
      obtain ⟨ao, cap, e, hc⟩ := HV.out
      simp only [Value.slice.injEq] at e
      obtain ⟨rfl, _, _⟩ := e
      exact hc n HL.out.2.1
    subst eav
    have hnl : n < vs.length := HL.out.2.1
    have HVC := Lib.hid hcv
    have HVO := Lib.hid hvo
    clear hcv hvo
    rcases hf with rfl | rfl
    · obtain ⟨j, hj⟩ : ∃ j, j = n / 8 := ⟨_, rfl⟩
      obtain ⟨q, hq⟩ : ∃ q, q = n % 8 := ⟨_, rfl⟩
      have hD3 : z5 = (vs.length + 7) / 8 := by
        have := HDD.out
        rw [dataF_length, if_pos (by decide)] at this
        exact this
      have hjD : j < (dataF 15 vs).length := by have := HDD.out; omega
      have hbits : Bits vs := by
        rcases HVO.out with ⟨_, h⟩ | ⟨h, _⟩
        · exact h
        · exact absurd h (by decide)
      have hval : (((dataF 15 vs)[j].toNat / 2 ^ q % 2 : Nat) : Int) = vs[n] := by
        have h5 := pack_bit hbits n hnl (by rw [packB_length]; omega)
        have h6 := hbits vs[n] (List.getElem_mem hnl)
        have h7 : (dataF 15 vs)[j] = (packB vs)[n / 8]'(by rw [packB_length]; omega) := by
          have h8 : dataF 15 vs = packB vs := by unfold dataF; rw [if_pos (by decide)]
          subst hj
          simp [h8]
        rw [h7]
        subst hq
        omega
      have hcell := HDAT.out j hjD
      have hy := byte_lt (dataF 15 vs)[j]
      generalize (dataF 15 vs)[j].toNat = y at hval hcell hy
      generalize vs[n] = V at hval HVC
      have HVAL := Lib.hid hval
      have HY := Lib.hid hy
      have hcw := (B3.out.cell (lt_cell hcell)).trans hcell
      have hvw := (T3.out.1.cell (lt_cell HVC.out)).trans HVC.out
      have BD : Hid (Below w3.heap.size w3 w3.drew) := Lib.hid (Below.refl _ _).drew
      have ej1 : (n : Int) / 8 = (j : Int) := by omega
      have eq1 : (n : Int) % 8 = (q : Int) := by omega
      have hn0 : (0 : Int) ≤ (n : Int) := by omega
      have htj : (n : Int).tdiv 8 = (j : Int) := by rw [Int.tdiv_eq_ediv_of_nonneg hn0]; exact ej1
      have htq : (n : Int).tmod 8 = (q : Int) := by rw [Int.tmod_eq_emod_of_nonneg hn0]; exact eq1
      have hwj : IntKind.i64.wrap (j : Int) = (j : Int) := IntWalk.i64_in _ (by omega)
      have hwj6 : IntKind.i64.wrap (6 + (j : Int)) = 6 + (j : Int) := IntWalk.i64_in _ (by omega)
      have hwq : IntKind.i64.wrap (q : Int) = (q : Int) := IntWalk.i64_in _ (by omega)
      have hwu : IntKind.u64.wrap (q : Int) = (q : Int) := by rw [IntKind.wrap_u64]; omega
      have hwy : IntKind.i64.wrap (y : Int) = (y : Int) := IntWalk.i64_in _ (by omega)
      have hjM : 6 + j < M := by have := HM2.out; omega
      have hjMi : 6 + (j : Int) < (M : Int) := by omega
      have hnli : (n : Int) < (vs.length : Int) := by omega
      have hj60 : (0 : Int) ≤ 6 + (j : Int) := by omega
      have hj6n : (6 + (j : Int)).toNat = 6 + j := by omega
      clear hval hcell hj hq hjD hbits hD3
      go_wp2_with fail
      go_region_held3 (fun w' => w'.cell? ⟨g2, o2 + (6 + j), none⟩ = some (.int .u8 (y : Int)) ∧ w'.cell? ⟨w.heap.size, 3, none⟩ = some (.slice (some ⟨bv, ov, none⟩) vs.length kv) ∧ w'.cell? ⟨bv, ov + n, none⟩ = some (.int .i64 V))
        (first
          | exact ⟨hcw, c3, hvw⟩
          | exact ⟨d1, d2, d3⟩
          | go_keep)
        ((go_at_call 11; refine (first_any _).mono ?_; rintro e w4 ⟨rfl, hb4⟩; have X4 : Hid (Below w3.heap.size w3 w4) := Lib.hid (BD.out.trans hb4); have d1 := (X4.out.cell (lt_cell hcw)).trans hcw; have d2 := (X4.out.cell (lt_cell c3)).trans c3; have d3 := (X4.out.cell (lt_cell hvw)).trans hvw; clear hb4; simp only []))
      all_goals
        have X5 := Lib.hid (T3.out.1.trans (X4.out.mono T3.out.1.size))
        clear d1 d2 d3 hcw c3 hvw
        go_wp2
        go_ret
        refine ⟨?_, X5.out⟩
        rw [and_one' y q HY.out, HVAL.out, beq_self_eq_true]
        rfl
    · obtain ⟨j, hj⟩ : ∃ j, j = 2 * n := ⟨_, rfl⟩
      have hD3 : z5 = 2 * vs.length := by
        have := HDD.out
        rw [dataF_length, if_neg (by decide)] at this
        exact this
      have hjD : j < (dataF 16 vs).length := by have := HDD.out; omega
      have hjD1 : j + 1 < (dataF 16 vs).length := by have := HDD.out; omega
      have hwords : Words vs := by
        rcases HVO.out with ⟨h, _⟩ | ⟨_, h⟩
        · exact absurd h (by decide)
        · exact h
      have hval : 256 * ((dataF 16 vs)[j].toNat : Int) + ((dataF 16 vs)[j + 1].toNat : Int) = vs[n] := by
        have h8 : dataF 16 vs = wordsB vs := by unfold dataF; rw [if_neg (by decide)]
        have h5 := word_at hwords n hnl (by rw [wordsB_length]; omega) (by rw [wordsB_length]; omega)
        subst hj
        simpa [h8] using h5
      have hcell := HDAT.out j hjD
      have hcell1 := HDAT.out (j + 1) hjD1
      have hy := byte_lt (dataF 16 vs)[j]
      have hy1 := byte_lt (dataF 16 vs)[j + 1]
      generalize (dataF 16 vs)[j].toNat = y at hval hcell hy
      generalize (dataF 16 vs)[j + 1].toNat = y1 at hval hcell1 hy1
      generalize vs[n] = V at hval HVC
      have hvv : (256 * (y : Int) + (y1 : Int) == V) = true := by simpa using hval
      have hcw := (B3.out.cell (lt_cell hcell)).trans hcell
      have hcw1 := (B3.out.cell (lt_cell hcell1)).trans hcell1
      have hvw := (T3.out.1.cell (lt_cell HVC.out)).trans HVC.out
      have BD : Hid (Below w3.heap.size w3 w3.drew) := Lib.hid (Below.refl _ _).drew
      have ej1 : 2 * (n : Int) = (j : Int) := by omega
      have hn0 : (0 : Int) ≤ (n : Int) := by omega
      have hwj : IntKind.i64.wrap (j : Int) = (j : Int) := IntWalk.i64_in _ (by omega)
      have hwj6 : IntKind.i64.wrap (6 + (j : Int)) = 6 + (j : Int) := IntWalk.i64_in _ (by omega)
      have hwj7 : IntKind.i64.wrap (7 + (j : Int)) = 7 + (j : Int) := IntWalk.i64_in _ (by omega)
      have hwy : IntKind.i64.wrap (y : Int) = (y : Int) := IntWalk.i64_in _ (by omega)
      have hwy1 : IntKind.i64.wrap (y1 : Int) = (y1 : Int) := IntWalk.i64_in _ (by omega)
      have hwy2 : IntKind.i64.wrap (256 * (y : Int)) = 256 * (y : Int) := IntWalk.i64_in _ (by omega)
      have hwy3 : IntKind.i64.wrap (256 * (y : Int) + (y1 : Int)) = 256 * (y : Int) + (y1 : Int) := IntWalk.i64_in _ (by omega)
      have hjM : 7 + j < M := by have := HM2.out; omega
      have hjMi : 6 + (j : Int) < (M : Int) := by omega
      have hjMj : 7 + (j : Int) < (M : Int) := by omega
      have hj60 : (0 : Int) ≤ 6 + (j : Int) := by omega
      have hj70 : (0 : Int) ≤ 7 + (j : Int) := by omega
      have hj6n : (6 + (j : Int)).toNat = 6 + j := by omega
      have hj7n : (7 + (j : Int)).toNat = 6 + (j + 1) := by omega
      have hnli : (n : Int) < (vs.length : Int) := by omega
      clear hval hcell hcell1 hj hjD hjD1 hwords hD3
      go_wp2_with fail
      go_region_held3 (fun w' => w'.cell? ⟨g2, o2 + (6 + j), none⟩ = some (.int .u8 (y : Int)) ∧ w'.cell? ⟨g2, o2 + (6 + (j + 1)), none⟩ = some (.int .u8 (y1 : Int)) ∧ w'.cell? ⟨w.heap.size, 3, none⟩ = some (.slice (some ⟨bv, ov, none⟩) vs.length kv) ∧ w'.cell? ⟨bv, ov + n, none⟩ = some (.int .i64 V))
        (first
          | exact ⟨hcw, hcw1, c3, hvw⟩
          | exact ⟨d1, d4, d2, d3⟩
          | go_keep)
        ((go_at_call 11; refine (first_any _).mono ?_; rintro e w4 ⟨rfl, hb4⟩; have X4 : Hid (Below w3.heap.size w3 w4) := Lib.hid (BD.out.trans hb4); have d1 := (X4.out.cell (lt_cell hcw)).trans hcw; have d4 := (X4.out.cell (lt_cell hcw1)).trans hcw1; have d2 := (X4.out.cell (lt_cell c3)).trans c3; have d3 := (X4.out.cell (lt_cell hvw)).trans hvw; clear hb4; simp only []))
      all_goals
        have X5 := Lib.hid (T3.out.1.trans (X4.out.mono T3.out.1.size))
        clear d1 d2 d3 d4 hcw hcw1 c3 hvw
        go_wp2
        go_ret
        exact ⟨rfl, X5.out⟩
  · have HM := Lib.hid hm
    clear hm
    refine (enc_no ⟨f, s, c, vs⟩ _ w1 (HV.out.on T1.out.1) HM.out HL.out.1).mono ?_
    intro e w2 h
    obtain ⟨b2, rfl, hb⟩ := h.form
    have T2 := Lib.hid (T1.out.on hb)
    clear h hb c0 c1 c2 c3
    go_wp2_with fail
    refine (quit _ T2.out.1).out.mono ?_
    rintro e wq ⟨rfl, hb⟩
    have HB := Lib.hid hb
    clear hb
    go_wp2
    go_ret
    exact ⟨rfl, HB.out⟩
end Go.Proofs.Ytaebbfdgchamaaa
