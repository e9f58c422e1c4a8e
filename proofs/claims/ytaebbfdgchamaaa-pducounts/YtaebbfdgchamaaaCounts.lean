/- yardlaw7.PduCounts answers true for every request and every reply; memory that was there stands. -/
import Derived.Test.YtaebbfdgchamaaaKinds
import Derived.Lib.AppendZeros
namespace Go.Proofs.Ytaebbfdgchamaaa
open Go.RowKit Go.Extern.Stop Go.Stop Go.Extern

/-- append of nothing to an empty row that was made for it. -/
theorem append_nil3 (W : World) (g c : Nat) : (Builtin.append_ #[22, 22] 22 #[.slice (some ⟨g, 0, none⟩) 0 0, .slice none 0 c]).run Try.prog W = .ok (.slice (some ⟨g, 0, none⟩) 0 0) W := by
  obtain ⟨i0, hi0, _, _, _⟩ := info_parts info3p
  simp [Builtin.append_, run_underlying Try.underlying22, sizeOf, typeInfo, hi0, Builtin.lenOf, Builtin.firstCells, storeCells]
theorem made_empty3 (w : World) : (w.alloc (.cells #[] 3)).ownsRow w.heap.size 3 1 (.slice (some ⟨w.heap.size, 0, none⟩) 0 0) 0 [] := World.ownsRow_made w #[] 0 (Nat.le_refl _) (Nat.zero_le _) (by simp)
theorem ints_news {w : World} {l : List Int} {a : Addr} (h : ∀ i (h : i < l.length), ∃ b off, some a = some (⟨b, off, none⟩ : Addr) ∧ w.cell? ⟨b, off + i, none⟩ = some (.int .i64 l[i])) :
    ∀ j u, (icells l)[j]? = some u → w.cell? (a.add j) = some u := fun j u hj => by
  have hlt : j < l.length := by
    rcases Nat.lt_or_ge j l.length with h' | h'
    · exact h'
    · rw [List.getElem?_eq_none (by rw [icells_length]; exact h')] at hj; cases hj
  obtain ⟨b, off, e, hc⟩ := h j hlt
  cases e
  rw [icells_get l j hlt] at hj
  rw [← hj, ← hc, add_at]
theorem icells_one (l : List Int) : ∀ u ∈ icells l, u.oneCell' = true := fun u h => by
  obtain ⟨x, _, rfl⟩ := List.mem_map.1 h
  rfl
set_option maxRecDepth 100000 in
set_option maxHeartbeats 1000000 in
/-- yardref.CopyInts. -/
theorem copyi_any (v : Value) (l : List Int) (w : World) (hv : IntsAt w v l) (hl : l.length ≤ 1000000) : Calls Try.prog 21 #[v] w (RowI w l) := by
  obtain ⟨i0, hi0, hz0, hz1, hz2⟩ := info_parts info3p
  obtain ⟨ao, cap, rfl, hc⟩ := hv
  cases ao with
  | none =>
    have h0 : l = [] := by
      cases l with
      | nil => rfl
      | cons x l => obtain ⟨b, off, e, _⟩ := hc 0 (by simp); cases e
    subst h0
    have ap := append_nil3 (w.alloc (.cells #[] 3)) w.heap.size cap
    clear hc hl
    go_enter Try.func21, Try.ntmps21
    go_wp2
    go_ret
    exact ⟨_, rfl, made_empty3 w, (Below.refl _ w).alloc (Nat.le_refl _) _⟩
  | some a =>
    have HC := Lib.hid (ints_news hc)
    clear hc
    go_enter Try.func21, Try.ntmps21
    go_wp2_with (at_builtin; refine wpList_append_own _ rfl _ _ 22 rfl w.heap.size 3 i0 _ 1 8 Try.underlying22 hi0 hz0 hz1 hz2 rfl (by omega) _ _ _ rfl (made_empty3 w) a l.length cap (icells l) rfl ?qc1 ?qc2 ?qc3 ?qc4 ?qc5 ?qc6 ?_)
    case qc1 => rw [icells_length]; omega
    case qc2 => exact fun j u hj => Lib.cell?_alloc_some _ (HC.out j u hj)
    case qc3 => exact icells_one l
    case qc4 => unfold maxLen; omega
    case qc5 => omega
    case qc6 => simp
    intro v' w1 hown hgrow hnil
    have HO := Lib.hid hown
    have HG := Lib.hid hgrow
    clear hown hgrow hnil
    go_wp2
    go_ret
    exact ⟨v', rfl, by simpa using HO.out, below_grown HG.out⟩
theorem ints_take {w : World} {a : Option Addr} {n c m k : Nat} {l : List Int} (h : IntsAt w (.slice a n c) l) (hm : m ≤ l.length) : IntsAt w (.slice a m k) (l.take m) := by
  obtain ⟨ao, cap, e, hc⟩ := h
  simp only [Value.slice.injEq] at e
  obtain ⟨rfl, _, _⟩ := e
  refine ⟨a, k, by rw [List.length_take, Nat.min_eq_left hm], fun i hi => ?_⟩
  rw [List.length_take] at hi
  obtain ⟨b', off', e', h'⟩ := hc i (by omega)
  refine ⟨b', off', e', ?_⟩
  rw [List.getElem_take]
  exact h'
theorem and_byte (n : Nat) (h : n < 256) : bits .and .i64 (n : Int) 255 = (n : Int) := by
  show IntKind.i64.wrap ((BitVec.ofInt 64 (n : Int) &&& BitVec.ofInt 64 255).toNat : Int) = _
  have e : n &&& 255 = n := by
    have := Nat.and_two_pow_sub_one_eq_mod n 8
    rw [show 2 ^ 8 - 1 = 255 from rfl] at this
    rw [this]
    omega
  rw [BitVec.toNat_and, BitVec.ofInt_natCast, BitVec.toNat_ofNat, show (BitVec.ofInt 64 255).toNat = 255 from rfl, Nat.mod_eq_of_lt (by omega), e, IntKind.wrap_i64]
  omega
/-- A reply of another length than was asked is none. -/
theorem mayR_len {f s c : Int} {vs ps : List Int} (hr : fReads f = true) (h : (ps.length : Int) ≠ c) : mayR ⟨f, s, c, vs⟩ ⟨0, ps⟩ = false := by
  rw [← Bool.not_eq_true]
  unfold mayR
  rw [Bool.and_eq_true, areV_iff]
  intro h2
  rw [if_pos ⟨rfl, hr⟩] at h2
  exact h h2.2.1

set_option maxRecDepth 100000 in
set_option maxHeartbeats 4000000 in
theorem counts_any (r : Rq) (p : Rp) (v : Value) (ap : Option Addr) (kp : Nat) (w : World) (hv : IntsAt w v r.vs) (hp : IntsAt w (.slice ap p.vs.length kp) p.vs) (hkp : p.vs.length ≤ kp) : Calls Try.prog 10 #[r.val v, p.val (.slice ap p.vs.length kp)] w (Holds w) := by
  obtain ⟨f, s, c, vs⟩ := r
  obtain ⟨code, ps⟩ := p
  unfold Rq.val Rp.val
  dsimp only at hv hp hkp ⊢
  have HV := Lib.hid hv
  have HP := Lib.hid hp
  have HKP := Lib.hid hkp
  obtain ⟨av, kv, rfl, _⟩ := id hv
  clear hv hp hkp
  obtain ⟨wx, hwx⟩ : ∃ wx, wx = (w.alloc (.cells #[.int .i64 f, .int .i64 s, .int .i64 c, .slice av vs.length kv] 24)).alloc (.cells #[.int .i64 code, .slice ap ps.length kp] 38) := ⟨_, rfl⟩
  have T0 : Hid (Two w wx f s c (.slice av vs.length kv) code (.slice ap ps.length kp)) := Lib.hid (by rw [hwx]; exact two_new _ _ _ _ _ _ _)
  go_enter Try.func10, Try.ntmps10
  go_wp2_with fail
  rw [← hwx]
  clear hwx
  refine (first_any wx).mono ?_
  rintro e w1 ⟨rfl, hb⟩
  have T1 := Lib.hid (T0.out.on hb)
  clear hb
  obtain ⟨c0, c1, c2, c3⟩ := cells4 T1.out.2.1
  obtain ⟨p0, p1⟩ := T1.out.2.2.cells
  have quit : ∀ (W : World), Below w.heap.size w W → Hid (Calls Try.prog 11 #[] W (Holds w)) := fun W h => Lib.hid ((first_any W).mono fun e w' h' => ⟨h'.1, h.trans (h'.2.mono h.size)⟩)
  by_cases h1 : (3000 : Int) < (vs.length : Int)
  · go_wp2_with fail
    refine (quit _ T1.out.1).out.mono ?_
    rintro e wq ⟨rfl, hb⟩
    have HB := Lib.hid hb
    clear hb
    go_wp2
    go_ret
    exact ⟨rfl, HB.out⟩
  by_cases h2 : (3000 : Int) < (ps.length : Int)
  · go_wp2_with fail
    refine (quit _ T1.out.1).out.mono ?_
    rintro e wq ⟨rfl, hb⟩
    have HB := Lib.hid hb
    clear hb
    go_wp2
    go_ret
    exact ⟨rfl, HB.out⟩
  by_cases h3 : f < 1
  · go_wp2_with fail
    refine (quit _ T1.out.1).out.mono ?_
    rintro e wq ⟨rfl, hb⟩
    have HB := Lib.hid hb
    clear hb
    go_wp2
    go_ret
    exact ⟨rfl, HB.out⟩
  by_cases h4 : 4 < f
  · go_wp2_with fail
    refine (quit _ T1.out.1).out.mono ?_
    rintro e wq ⟨rfl, hb⟩
    have HB := Lib.hid hb
    clear hb
    go_wp2
    go_ret
    exact ⟨rfl, HB.out⟩
  have HL : Hid (vs.length ≤ 100000 ∧ ps.length ≤ 3000) := Lib.hid (by omega)
  have f1 : 1 ≤ f := by omega
  have f2 : f ≤ 4 := by omega
  have HRD : Hid (fReads f = true) := Lib.hid (by unfold fReads; simp; omega)
  clear h3 h4
  go_wp2_with fail
  rcases Bool.eq_false_or_eq_true (Rq.may ⟨f, s, c, vs⟩ && mayR ⟨f, s, c, vs⟩ ⟨code, ps⟩) with hm | hm
  · have HM := Lib.hid (by rwa [Bool.and_eq_true] at hm : Rq.may ⟨f, s, c, vs⟩ = true ∧ mayR ⟨f, s, c, vs⟩ ⟨code, ps⟩ = true)
    clear hm
    refine (ans_ok ⟨f, s, c, vs⟩ ⟨code, ps⟩ _ _ w1 (HV.out.on T1.out.1) (HP.out.on T1.out.1) HM.out.1 HM.out.2 HL.out.1 (by have := HL.out.2; show ps.length ≤ 100000; omega)).mono ?_
    intro e w2 h
    obtain ⟨a2, k2, rfl, hx, _, hb⟩ := h.form
    have T2 := Lib.hid (T1.out.on hb)
    clear h hb c0 c1 c2 c3 p0 p1
    obtain ⟨c0, c1, c2, c3⟩ := cells4 T2.out.2.1
    obtain ⟨p0, p1⟩ := T2.out.2.2.cells
    by_cases h0 : code = 0
    · subst h0
      have HC : Hid ((ps.length : Int) = c ∧ 1 ≤ ps.length ∧ c ≤ 2000) := Lib.hid (by
        have h5 := (may_iff.1 HM.out.1).1
        have h6 : fMost f ≤ 2000 := by unfold fMost; repeat' split <;> omega
        cases rkind_of HM.out.1 HM.out.2 with
        | exc hc hv => dsimp only at hc; omega
        | read hc hr hl hv hd => dsimp only at hl h5; exact ⟨hl, by omega, by omega⟩
        | done hc hr hv => dsimp only at hr; rw [HRD.out] at hr; cases hr)
      have hd : (dataF f ps).length ≤ 250 := by
        cases rkind_of HM.out.1 HM.out.2 with
        | exc hc hv => dsimp only at hc; omega
        | read hc hr hl hv hd => exact hd
        | done hc hr hv => dsimp only at hr; rw [HRD.out] at hr; cases hr
      obtain ⟨y0, e0, _⟩ := be_one_num (x := f) (by omega) (by omega)
      obtain ⟨y1, e1, q5⟩ := be_one_num (x := ((dataF f ps).length : Int)) (by omega) (by omega)
      have HA : ansF ⟨f, s, c, vs⟩ ⟨0, ps⟩ = y0 :: y1 :: dataF f ps := by
        unfold ansF putF
        rw [if_pos rfl, if_pos HRD.out, e0, e1]
        rfl
      rw [HA] at hx ⊢
      obtain ⟨g2, o2, rfl⟩ := some_of' hx (by simp)
      have i1 := idx hx 1 (by simp)
      simp only [List.getElem_cons_zero, List.getElem_cons_succ] at i1
      obtain ⟨N, hN⟩ : ∃ N, N = (dataF f ps).length := ⟨_, rfl⟩
      have HND := Lib.hid (hN.trans dataF_length)
      rw [show (y0 :: y1 :: dataF f ps).length = N + 2 by rw [hN]; rfl] at ⊢
      rw [← hN] at q5 hd
      generalize y1.toNat = z1 at q5 i1
      have hz1 : z1 = N := by omega
      subst hz1
      obtain ⟨M, hM⟩ : ∃ M, M = z1 + 2 := ⟨_, rfl⟩
      rw [← hM]
      have HMM := Lib.hid hM
      have HI1 := Lib.hid (lt_cell i1)
      have HC1 := Lib.hid i1
      obtain ⟨m, hm1⟩ : ∃ m, ps.length = m + 1 := ⟨ps.length - 1, by have := HC.out.2.1; omega⟩
      have HM1 := Lib.hid hm1
      have hcb : (1 : Int) ≤ c := by have := HC.out; omega
      have hcb2 : c ≤ 2000 := HC.out.2.2
      clear hx i1 hM hm1 HA e0 e1 q5 hN
      have T3 : Hid (Two w (w2.alloc (.cells #[.int .i64 0, .slice ap ps.length kp] 38)) f s c (.slice av vs.length kv) 0 (.slice ap ps.length kp)) := Lib.hid (T2.out.on (below_new w2 _))
      obtain ⟨p0q, p1q⟩ := T3.out.2.2.cells
      rcases Int.lt_or_le 2 f with hf2 | hf2
      · have hf3 : ¬ fTop f = 1 := by unfold fTop; rw [if_neg (by omega), if_pos (by omega)]; omega
        rw [if_neg hf3] at HND
        clear hf3
        go_wp2_with fail
        refine (copyi_any _ ps _ (HP.out.on T3.out.1) (by have := HL.out; omega)).mono ?_
        rintro e w4 ⟨v4, rfl, ho4, hb4⟩
        have B4 : Hid (Below w2.heap.size w2 w4) := Lib.hid ((below_new w2 _).trans (hb4.mono (by simp)))
        have hQ4 : BoxP w4 w2.heap.size 0 (.slice ap ps.length kp) := BoxP.on (heap_alloc_new w2 _) hb4
        have hlow : ∀ k, v4.ownBlock = some k → w2.heap.size + 1 ≤ k := fun k hk => by have := (ho4.lt k hk).1; simpa using this
        obtain ⟨v5, w5, happ, ho5, hk5⟩ := app_int w4 _ v4 ps 0 ho4 hb4.size (by have := HL.out; omega)
        obtain ⟨a4, k4, rfl⟩ := row_slice ho4
        have B5 : Hid (Below w2.heap.size w2 w5) := Lib.hid (B4.out.trans (hk5.below B4.out.size (fun k hk => by have := hlow k hk; omega)))
        have Q5 : Hid (BoxP w5 w2.heap.size 0 (.slice ap ps.length kp)) := Lib.hid ((hk5.block _ (lt_heap hQ4) (fun e => by have := hlow _ e; omega)).trans hQ4)
        have hlen5 : (ps ++ [0]).length = ps.length + 1 := by simp
        obtain ⟨a5, k5, rfl⟩ := row_slice ho5
        have O5 : Hid (w5.ownsRow (w2.heap.size + 1) 3 1 (.slice a5 (ps ++ [0]).length k5) (ps ++ [0]).length (icells (ps ++ [0]))) := Lib.hid (by simpa using ho5)
        have HL5 := Lib.hid hlen5
        clear ho4 hb4 hQ4 hlow ho5 hk5 hlen5
        generalize hqs : ps ++ [0] = qs at *
        clear hqs
        generalize hql : qs.length = ql at *
        have HQL := Lib.hid hql
        clear hql
        have B6 : Hid (Below w2.heap.size w2 (w5.setCell ⟨w2.heap.size, 1, none⟩ (.slice a5 ql k5))) := Lib.hid (B5.out.setCell (Nat.le_refl _) _)
        have V6 : Hid (IntsAt (w5.setCell ⟨w2.heap.size, 1, none⟩ (.slice a5 ql k5)) (.slice a5 ql k5) qs) := Lib.hid (by
          have h9 : (w5.setCell ⟨w2.heap.size, 1, none⟩ (.slice a5 ql k5)).ownsRow (w2.heap.size + 1) 3 1 (.slice a5 ql k5) ql (icells qs) := ownsRow_off O5.out (Off.set (fun k => k = w2.heap.size) w5 ⟨w2.heap.size, 1, none⟩ _ rfl) (fun k e s => by have := (O5.out.lt k e).1; omega)
          have h10 := HQL.out
          subst h10
          exact intsAt_own h9)
        have q0f : ∀ o, w5.frozen? ⟨w2.heap.size, o, none⟩ = false := fun o => frozen_of_row _ _ _ _ _ Q5.out
        have qf1 := q0f 1
        obtain ⟨q0, q1⟩ := Q5.out.cells
        clear q0f c0 c1 c2 c3 p0 p1
        obtain ⟨c0, c1, c2, c3⟩ := cells4 (T2.out.on B6.out).2.1
        go_wp2_with (at_builtin; refine Lib.wpList_append_run _ rfl _ _ _ _ rfl _ _ rfl rfl _ _ happ ?_)
        clear p0q p1q
        refine (ans_no ⟨f, s, c, vs⟩ ⟨0, qs⟩ _ _ _ (HV.out.on (T2.out.on B6.out).1) V6.out (by rw [HM.out.1, Bool.true_and]; exact mayR_len HRD.out (by rw [HQL.out]; have := HL5.out; have := HC.out.1; omega)) HL.out.1 (by show qs.length ≤ 100000; rw [HQL.out]; have := HL5.out; have := HL.out; omega)).mono ?_
        intro e w7 h
        obtain ⟨b7, rfl, hb⟩ := h.form
        have B7 : Hid (Below w2.heap.size w2 w7) := Lib.hid (B6.out.trans (hb.mono B6.out.size))
        have Q7 : Hid (BoxP w7 w2.heap.size 0 (.slice a5 ql k5)) := Lib.hid (BoxP.on (by unfold BoxP; rw [heap_set _ _ _ _ _ _ _ Q5.out]; rfl) hb)
        clear h hb happ q0 q1 qf1 c0 c1 c2 c3
        have q0f : ∀ o, w7.frozen? ⟨w2.heap.size, o, none⟩ = false := fun o => frozen_of_row _ _ _ _ _ Q7.out
        have qf1 := q0f 1
        obtain ⟨q0, q1⟩ := Q7.out.cells
        clear q0f
        have hmk : m ≤ kp := by have := HKP.out; have := HM1.out; omega
        have hm2 : (ps.length : Int) - 1 = (m : Int) := by have := HM1.out; omega
        have hpl : 1 ≤ ps.length := by have := HM1.out; omega
        obtain ⟨p0, p1⟩ := (T2.out.on B7.out).2.2.cells
        have B8 : Hid (Below w2.heap.size w2 (w7.setCell ⟨w2.heap.size, 1, none⟩ (.slice ap m kp))) := Lib.hid (B7.out.setCell (Nat.le_refl _) _)
        have V8 : Hid (IntsAt (w7.setCell ⟨w2.heap.size, 1, none⟩ (.slice ap m kp)) (.slice ap m kp) (ps.take m)) := Lib.hid (ints_take (HP.out.on (T2.out.on B8.out).1) (by have := HM1.out; omega))
        obtain ⟨c0, c1, c2, c3⟩ := cells4 (T2.out.on B8.out).2.1
        go_wp2_with fail
        refine (ans_no ⟨f, s, c, vs⟩ ⟨0, ps.take m⟩ _ _ _ (HV.out.on (T2.out.on B8.out).1) V8.out (by rw [HM.out.1, Bool.true_and]; exact mayR_len HRD.out (by rw [List.length_take]; have := HM1.out; have := HC.out.1; omega)) HL.out.1 (by show (ps.take m).length ≤ 100000; rw [List.length_take]; have := HL.out; omega)).mono ?_
        intro e w9 h
        obtain ⟨b9, rfl, hb⟩ := h.form
        have B9 : Hid (Below w2.heap.size w2 w9) := Lib.hid (B8.out.trans (hb.mono B8.out.size))
        clear h hb q0 q1 qf1 c0 c1 c2 c3 p0 p1 hm2
        go_wp2_with fail
        refine (first_any w9).mono ?_
        rintro e w10 ⟨rfl, hb⟩
        have B10 : Hid (Below w2.heap.size w2 w10) := Lib.hid (B9.out.trans (hb.mono B9.out.size))
        clear hb
        obtain ⟨p0, p1⟩ := (T2.out.on B10.out).2.2.cells
        obtain ⟨c0, c1, c2, c3⟩ := cells4 (T2.out.on B10.out).2.1
        have i1 := (B10.out.cell (lt_cell HC1.out)).trans HC1.out
        have TB := Lib.hid (T2.out.on B10.out).1
        have t1 : ((ps.length : Int) == c) = true := by simpa using HC.out.1
        have t2 : ((M : Int) == 2 + 2 * c) = true := by simp; have := HMM.out; have := HND.out; have := HC.out.1; omega
        have t3 : (z1 : Int) = 2 * c := by have := HND.out; have := HC.out.1; omega
        have t4 : bits .and .i64 (2 * c) 255 = (z1 : Int) := by rw [← t3]; exact and_byte z1 (by omega)
        have t5 : (0 : Int) ≤ 2 * c := by omega
        have t6 : 2 * c ≤ 250 := by omega
        have M1 : 1 < M := by have := HMM.out; omega
        have z8 : (z1 : Int) ≤ 255 := by omega
        clear t3
        go_wp2
        go_ret
        exact ⟨rfl, TB.out⟩
      · have hf3 : fTop f = 1 := by unfold fTop; rw [if_pos (by omega)]
        rw [if_pos hf3] at HND
        clear hf3
        go_wp2_with fail
        refine (copyi_any _ ps _ (HP.out.on T3.out.1) (by have := HL.out; omega)).mono ?_
        rintro e w4 ⟨v4, rfl, ho4, hb4⟩
        have B4 : Hid (Below w2.heap.size w2 w4) := Lib.hid ((below_new w2 _).trans (hb4.mono (by simp)))
        have hQ4 : BoxP w4 w2.heap.size 0 (.slice ap ps.length kp) := BoxP.on (heap_alloc_new w2 _) hb4
        have hlow : ∀ k, v4.ownBlock = some k → w2.heap.size + 1 ≤ k := fun k hk => by have := (ho4.lt k hk).1; simpa using this
        obtain ⟨v5, w5, happ, ho5, hk5⟩ := app_int w4 _ v4 ps 0 ho4 hb4.size (by have := HL.out; omega)
        obtain ⟨a4, k4, rfl⟩ := row_slice ho4
        have B5 : Hid (Below w2.heap.size w2 w5) := Lib.hid (B4.out.trans (hk5.below B4.out.size (fun k hk => by have := hlow k hk; omega)))
        have Q5 : Hid (BoxP w5 w2.heap.size 0 (.slice ap ps.length kp)) := Lib.hid ((hk5.block _ (lt_heap hQ4) (fun e => by have := hlow _ e; omega)).trans hQ4)
        have hlen5 : (ps ++ [0]).length = ps.length + 1 := by simp
        obtain ⟨a5, k5, rfl⟩ := row_slice ho5
        have O5 : Hid (w5.ownsRow (w2.heap.size + 1) 3 1 (.slice a5 (ps ++ [0]).length k5) (ps ++ [0]).length (icells (ps ++ [0]))) := Lib.hid (by simpa using ho5)
        have HL5 := Lib.hid hlen5
        clear ho4 hb4 hQ4 hlow ho5 hk5 hlen5
        generalize hqs : ps ++ [0] = qs at *
        clear hqs
        generalize hql : qs.length = ql at *
        have HQL := Lib.hid hql
        clear hql
        have B6 : Hid (Below w2.heap.size w2 (w5.setCell ⟨w2.heap.size, 1, none⟩ (.slice a5 ql k5))) := Lib.hid (B5.out.setCell (Nat.le_refl _) _)
        have V6 : Hid (IntsAt (w5.setCell ⟨w2.heap.size, 1, none⟩ (.slice a5 ql k5)) (.slice a5 ql k5) qs) := Lib.hid (by
          have h9 : (w5.setCell ⟨w2.heap.size, 1, none⟩ (.slice a5 ql k5)).ownsRow (w2.heap.size + 1) 3 1 (.slice a5 ql k5) ql (icells qs) := ownsRow_off O5.out (Off.set (fun k => k = w2.heap.size) w5 ⟨w2.heap.size, 1, none⟩ _ rfl) (fun k e s => by have := (O5.out.lt k e).1; omega)
          have h10 := HQL.out
          subst h10
          exact intsAt_own h9)
        have q0f : ∀ o, w5.frozen? ⟨w2.heap.size, o, none⟩ = false := fun o => frozen_of_row _ _ _ _ _ Q5.out
        have qf1 := q0f 1
        obtain ⟨q0, q1⟩ := Q5.out.cells
        clear q0f c0 c1 c2 c3 p0 p1
        obtain ⟨c0, c1, c2, c3⟩ := cells4 (T2.out.on B6.out).2.1
        go_wp2_with (at_builtin; refine Lib.wpList_append_run _ rfl _ _ _ _ rfl _ _ rfl rfl _ _ happ ?_)
        clear p0q p1q
        refine (ans_no ⟨f, s, c, vs⟩ ⟨0, qs⟩ _ _ _ (HV.out.on (T2.out.on B6.out).1) V6.out (by rw [HM.out.1, Bool.true_and]; exact mayR_len HRD.out (by rw [HQL.out]; have := HL5.out; have := HC.out.1; omega)) HL.out.1 (by show qs.length ≤ 100000; rw [HQL.out]; have := HL5.out; have := HL.out; omega)).mono ?_
        intro e w7 h
        obtain ⟨b7, rfl, hb⟩ := h.form
        have B7 : Hid (Below w2.heap.size w2 w7) := Lib.hid (B6.out.trans (hb.mono B6.out.size))
        have Q7 : Hid (BoxP w7 w2.heap.size 0 (.slice a5 ql k5)) := Lib.hid (BoxP.on (by unfold BoxP; rw [heap_set _ _ _ _ _ _ _ Q5.out]; rfl) hb)
        clear h hb happ q0 q1 qf1 c0 c1 c2 c3
        have q0f : ∀ o, w7.frozen? ⟨w2.heap.size, o, none⟩ = false := fun o => frozen_of_row _ _ _ _ _ Q7.out
        have qf1 := q0f 1
        obtain ⟨q0, q1⟩ := Q7.out.cells
        clear q0f
        have hmk : m ≤ kp := by have := HKP.out; have := HM1.out; omega
        have hm2 : (ps.length : Int) - 1 = (m : Int) := by have := HM1.out; omega
        have hpl : 1 ≤ ps.length := by have := HM1.out; omega
        obtain ⟨p0, p1⟩ := (T2.out.on B7.out).2.2.cells
        have B8 : Hid (Below w2.heap.size w2 (w7.setCell ⟨w2.heap.size, 1, none⟩ (.slice ap m kp))) := Lib.hid (B7.out.setCell (Nat.le_refl _) _)
        have V8 : Hid (IntsAt (w7.setCell ⟨w2.heap.size, 1, none⟩ (.slice ap m kp)) (.slice ap m kp) (ps.take m)) := Lib.hid (ints_take (HP.out.on (T2.out.on B8.out).1) (by have := HM1.out; omega))
        obtain ⟨c0, c1, c2, c3⟩ := cells4 (T2.out.on B8.out).2.1
        go_wp2_with fail
        refine (ans_no ⟨f, s, c, vs⟩ ⟨0, ps.take m⟩ _ _ _ (HV.out.on (T2.out.on B8.out).1) V8.out (by rw [HM.out.1, Bool.true_and]; exact mayR_len HRD.out (by rw [List.length_take]; have := HM1.out; have := HC.out.1; omega)) HL.out.1 (by show (ps.take m).length ≤ 100000; rw [List.length_take]; have := HL.out; omega)).mono ?_
        intro e w9 h
        obtain ⟨b9, rfl, hb⟩ := h.form
        have B9 : Hid (Below w2.heap.size w2 w9) := Lib.hid (B8.out.trans (hb.mono B8.out.size))
        clear h hb q0 q1 qf1 c0 c1 c2 c3 p0 p1 hm2
        go_wp2_with fail
        refine (first_any w9).mono ?_
        rintro e w10 ⟨rfl, hb⟩
        have B10 : Hid (Below w2.heap.size w2 w10) := Lib.hid (B9.out.trans (hb.mono B9.out.size))
        clear hb
        obtain ⟨p0, p1⟩ := (T2.out.on B10.out).2.2.cells
        obtain ⟨c0, c1, c2, c3⟩ := cells4 (T2.out.on B10.out).2.1
        have i1 := (B10.out.cell (lt_cell HC1.out)).trans HC1.out
        have TB := Lib.hid (T2.out.on B10.out).1
        have t1 : ((ps.length : Int) == c) = true := by simpa using HC.out.1
        have t2 : ((M : Int) == 2 + (c + 7) / 8) = true := by simp; have := HMM.out; have := HND.out; have := HC.out.1; omega
        have t3 : (z1 : Int) = (c + 7) / 8 := by have := HND.out; have := HC.out.1; omega
        have t4 : bits .and .i64 ((c + 7) / 8) 255 = (z1 : Int) := by rw [← t3]; exact and_byte z1 (by omega)
        have t5 : (0 : Int) ≤ (c + 7) / 8 := by omega
        have t6 : (c + 7) / 8 ≤ 250 := by omega
        have M1 : 1 < M := by have := HMM.out; omega
        have z8 : (z1 : Int) ≤ 255 := by omega
        clear t3
        go_wp2
        go_ret
        exact ⟨rfl, TB.out⟩
    · have n0 : (code != 0) = true := by simpa using h0
      clear h0
      go_wp2_with fail
      refine (quit _ T2.out.1).out.mono ?_
      rintro e wq ⟨rfl, hb⟩
      have HB := Lib.hid hb
      clear hb
      go_wp2
      go_ret
      exact ⟨rfl, HB.out⟩
  · have HM := Lib.hid hm
    clear hm
    refine (ans_no ⟨f, s, c, vs⟩ ⟨code, ps⟩ _ _ w1 (HV.out.on T1.out.1) (HP.out.on T1.out.1) HM.out HL.out.1 (by have := HL.out.2; show ps.length ≤ 100000; omega)).mono ?_
    intro e w2 h
    obtain ⟨b2, rfl, hb⟩ := h.form
    have T2 := Lib.hid (T1.out.on hb)
    clear h hb c0 c1 c2 c3 p0 p1
    go_wp2_with fail
    refine (quit _ T2.out.1).out.mono ?_
    rintro e wq ⟨rfl, hb⟩
    have HB := Lib.hid hb
    clear hb
    go_wp2
    go_ret
    exact ⟨rfl, HB.out⟩
end Go.Proofs.Ytaebbfdgchamaaa
