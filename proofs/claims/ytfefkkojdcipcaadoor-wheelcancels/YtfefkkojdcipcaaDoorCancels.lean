/- yardlaw4.WheelCancels answers true for every list of calls and every number, and older memory stands. -/
import Derived.Test.YtfefkkojdcipcaaDoorAny
import Derived.StillTailTactics
namespace Go.Proofs.YtfefkkojdcipcaaDoor
open Go.RowKit Go.Extern.Stop Go.Stop Go.Extern

/-- Where the next of those that are left lies. -/
theorem filter_next (p : Int → Bool) : ∀ (l : List Int) (i : Nat) (hi : i < l.length), p l[i] = true → ∃ h : ((l.take i).filter p).length < (l.filter p).length, (l.filter p)[((l.take i).filter p).length] = l[i]
  | x :: l, 0, _, hp => by
    simp only [List.getElem_cons_zero] at hp
    refine ⟨by simp [hp], ?_⟩
    simp [hp]
  | x :: l, i + 1, hi, hp => by
    simp only [List.getElem_cons_succ] at hp
    obtain ⟨h1, h2⟩ := filter_next p l i (by simpa using hi) hp
    by_cases hx : p x = true
    · refine ⟨by simp [hx]; omega, ?_⟩
      simp [hx, h2]
    · refine ⟨by simp [hx]; omega, ?_⟩
      simp [hx, h2]
theorem ids_erase {ts : List (Int × Int)} (h : Good ts) (id : Int) : (eraseT ts id).map (·.1) = (ts.map (·.1)).filter fun x => decide (x ≠ id) := by
  rw [eraseT_filter ts id h.nodup, List.filter_map]
  rfl
theorem at_mem {ts : List (Int × Int)} (h : Good ts) (id : Int) : (atT ts id).isSome = (ts.map (·.1)).contains id := by
  rw [Bool.eq_iff_iff, Option.isSome_iff_exists, List.contains_iff_mem, List.mem_map]
  constructor
  · rintro ⟨a, ha⟩
    exact ⟨(id, a), atT_some ha, rfl⟩
  · rintro ⟨t, ht, rfl⟩
    exact ⟨t.2, atT_mem h.nodup t ht⟩
theorem contains_next (l : List Int) (i : Nat) (hi : i < l.length) (x : Int) : (l.take (i + 1)).contains x = ((l.take i).contains x || decide (l[i] = x)) := by
  rw [← List.take_append_getElem hi, Bool.eq_iff_iff]
  simp only [List.contains_iff_mem, List.mem_append, List.mem_singleton, Bool.or_eq_true, decide_eq_true_eq]
  constructor
  · rintro (h | h)
    · exact .inl h
    · exact .inr h.symm
  · rintro (h | h)
    · exact .inl h
    · exact .inr h.symm
theorem filter_take (p : Int → Bool) (l : List Int) (i : Nat) (hi : i < l.length) : ((l.take (i + 1)).filter p).length = ((l.take i).filter p).length + (if p l[i] = true then 1 else 0) := by
  rw [← List.take_append_getElem hi, List.filter_append, List.length_append]
  by_cases h : p l[i] = true <;> simp [h]

set_option maxRecDepth 100000 in
set_option maxHeartbeats 8000000 in
theorem cancels_any (v : Value) (l : List OpV) (gone : Int) (w : World) (hv : OpsAt w v l) (hg : ErrT w) : Calls Tryd.prog 8 #[v, .int .i64 gone] w (Fine w) := by
  have HK : Hid (∀ W : World, Below w.heap.size w W → ErrT W) := Lib.hid fun W hb => hg.up hb
  have HV := Lib.hid hv
  have HG := Lib.hid hg
  obtain ⟨ao, cap, rfl, hx⟩ := hv
  clear hg hx
  by_cases hlen : l.length ≤ 200
  · have hlen' : (l.length : Int) ≤ 200 := by omega
    have HL := Lib.hid hlen
    clear hlen
    go_enter Tryd.func8, Tryd.ntmps8
    go_wp2_with fail
    refine (first_any _ HG.out).mono ?_
    rintro e wa ⟨rfl, hba⟩
    have BA := Lib.hid hba
    clear hba
    go_wp2_with fail
    refine (new_any _).mono ?_
    rintro e w0 ⟨rfl, hw0⟩
    have H0 : Hid (WhAt w0 wa.heap.size wa.heap.size 0 (.slice none 0 0) []) := Lib.hid (by rw [hw0]; exact whAt_new wa)
    have B0 : Hid (Below wa.heap.size wa w0) := Lib.hid (by rw [hw0]; exact below_new wa _)
    clear hw0
    go_wp2
    go_loopg [6] l.length (fun k s6 wr => ∃ i : Nat, i ≤ l.length ∧ k = l.length - i ∧ s6 = .int .i64 i ∧ Hid (SetsInv wa.heap.size wa i wr))
    case atStart => exact ⟨0, Nat.zero_le _, rfl, rfl, Lib.hid ⟨_, [], H0.out, good_nil, Nat.zero_le _, B0.out⟩⟩
    case round =>
      obtain ⟨wo, hwo⟩ : ∃ x, x = wr := ⟨wr, rfl⟩
      subst hwo
      obtain ⟨i, hi, rfl, rfl, hinv⟩ := hrel
      by_cases hlt : i < l.length
      · obtain ⟨v1, ts, hw, hgood, htl, hbr⟩ := hinv.out
        have HW := Lib.hid hw
        have HGD := Lib.hid (And.intro hgood htl)
        have HBR : Hid (Below w.heap.size w wo) := Lib.hid (BA.out.trans (hbr.mono BA.out.size))
        have HBA := Lib.hid hbr
        obtain ⟨b, off, hb, hc⟩ := HV.out.each i hlt
        subst hb
        generalize l[i].kind = K at *
        generalize l[i].n = N at *
        generalize l[i].a = A at *
        obtain ⟨c0, c1, c2⟩ := hc wo HBR.out
        clear hc hw hgood htl hbr hinv
        have hi0 : (0 : Int) ≤ (i : Int) := by omega
        have hil : (i : Int) < (l.length : Int) := by omega
        go_wp2
        go_still_tail 11, (by kernel_rfl)
        go_wp2_with fail
        have HS := Lib.hid (set_any wa.heap.size wa.heap.size 0 v1 ts N A wo.drew (HW.out.on (Below.refl _ _).drew) (by have := HGD.out.2; have := HL.out; omega) (by omega) (by omega))
        have HTT : Hid (Good (setA 0 ts N A) ∧ (setA 0 ts N A).length ≤ i + 1) := Lib.hid ⟨good_setA N A HGD.out.1 (by omega) (by omega), Nat.le_trans (setA_length 0 ts N A) (by have := HGD.out.2; omega)⟩
        refine HS.out.mono ?_
        rintro e w2 ⟨x, v2, rfl, hans, st⟩
        have HN : Hid (SetsInv wa.heap.size wa (i + 1) w2) := Lib.hid ⟨v2, _, st.wh, HTT.out.1, HTT.out.2, HBA.out.drew.trans st.below⟩
        clear st hans
        go_wp2
        go_roundg (l.length - (i + 1))
        case measure => omega
        case rel => exact ⟨i + 1, by omega, rfl, (by first | exact next_int i (by have := HL.out; omega) | exact congrArg _ (by omega)), HN⟩
      · have hil : (l.length : Int) ≤ (i : Int) := by omega
        obtain ⟨v1, ts, hw, hgood, htl, hbr⟩ := hinv.out
        have HW := Lib.hid hw
        have HGD := Lib.hid hgood
        have HTL : Hid (ts.length ≤ 200) := Lib.hid (by have := HL.out; omega)
        have HBA := Lib.hid hbr
        clear hw hgood htl hbr hinv
        go_wp2_with fail
        refine (list_any wa.heap.size wa.heap.size 0 v1 ts wo HW.out (by have := HTL.out; omega)).mono ?_
        rintro e w2 ⟨xl, rfl, hxl, hb2⟩
        have W2 := Lib.hid (HW.out.on hb2)
        have B2 : Hid (Below wa.heap.size wa w2) := Lib.hid (HBA.out.trans (hb2.mono HBA.out.size))
        obtain ⟨al, cl, rfl⟩ := hxl.slice
        rw [sortI_length, List.length_map]
        clear hxl hb2
        go_wp2_with fail
        refine (copy_any wa.heap.size wa.heap.size 0 v1 ts w2 W2.out (by have := HTL.out; omega)).mono ?_
        rintro e w3 ⟨q, vc, rfl, hcw, hb3⟩
        have C3 := Lib.hid hcw
        have W3 := Lib.hid (W2.out.on hb3)
        have AP : Hid (∀ k, Wrote wa.heap.size v1 k → ¬ Wrote q vc k) := Lib.hid (copy_apart W2.out hcw)
        have B3 : Hid (Below wa.heap.size wa w3) := Lib.hid (B2.out.trans (hb3.mono B2.out.size))
        have S23 : Hid (w2.heap.size ≤ w3.heap.size) := Lib.hid hb3.size
        clear hcw hb3
        go_wp2_with fail
        refine (cancel_any wa.heap.size wa.heap.size 0 v1 ts gone w3 W3.out (by have := HTL.out; omega)).mono ?_
        rintro e w4 ⟨rfl, ht⟩
        obtain ⟨v4, st⟩ := ht.step W3.out
        have S4 := Lib.hid st
        obtain ⟨hc4, ha4⟩ := Turned.other C3.out st.off st.fresh AP.out
        have C4 := Lib.hid (And.intro hc4 ha4)
        have B4 : Hid (Below wa.heap.size wa w4) := Lib.hid (B3.out.trans st.below)
        clear ht st hc4 ha4
        obtain ⟨was, hwas⟩ : ∃ was, was = (atT ts gone).isSome := ⟨_, rfl⟩
        have HWAS := Lib.hid hwas
        rw [← hwas]
        clear hwas
        go_wp2_with fail
        refine (tick_ok wa.heap.size wa.heap.size 0 v4 _ 1099511627776 w4 S4.out.wh (by have := HTL.out; have := eraseT_length ts gone; omega) (by omega) (by omega) (by omega) (by omega)).mono ?_
        rintro e w5 ⟨xa, rfl, hxa, ht⟩
        have hdue := due_all (t := laterT 0 1099511627776) (ts := eraseT ts gone) (fun s hs => (HGD.out.rng s ((eraseT_sub ts gone).subset hs)).2.2)
        rw [hdue.2] at ht
        rw [hdue.1, ids_erase HGD.out] at hxa
        obtain ⟨v5, st⟩ := ht.step S4.out.wh
        have S5 := Lib.hid st
        obtain ⟨hc5, ha5⟩ := Turned.other C4.out.1 st.off st.fresh C4.out.2
        have C5 := Lib.hid hc5
        have AP5 := Lib.hid ha5
        have A5 := Lib.hid hxa
        have B5 : Hid (Below wa.heap.size wa w5) := Lib.hid (B4.out.trans st.below)
        have S25 : Hid (w2.heap.size ≤ w5.heap.size) := Lib.hid (Nat.le_trans S23.out (Nat.le_trans S4.out.off.size st.off.size))
        clear ht st hc5 ha5 hxa hdue
        go_wp2_with fail
        refine (tick_ok w2.heap.size q 0 vc _ 1099511627776 w5 C5.out (by have := HTL.out; omega) (by omega) (by omega) (by omega) (by omega)).mono ?_
        rintro e w6 ⟨xb, rfl, hxb, ht⟩
        have hdue := due_all (t := laterT 0 1099511627776) (ts := ts) (fun s hs => (HGD.out.rng s hs).2.2)
        rw [hdue.1] at hxb
        obtain ⟨vc6, st⟩ := ht.step C5.out
        obtain ⟨hw6, _⟩ := Turned.other S5.out.wh st.off st.fresh (fun k h1 h2 => AP5.out k h2 h1)
        have W6 := Lib.hid hw6
        have A6 := Lib.hid (st.ints _ _ A5.out)
        have X6 := Lib.hid hxb
        have B6 : Hid (Below wa.heap.size wa w6) := Lib.hid (B5.out.trans (st.below.mono B2.out.size))
        clear ht st hw6 hxb hdue
        have HBL : Hid ((ts.map (·.1)).length = ts.length) := Lib.hid (by simp)
        have HWC : Hid (was = (ts.map (·.1)).contains gone) := Lib.hid (by rw [HWAS.out, at_mem HGD.out])
        generalize ts.map (·.1) = bs at *
        have HTB : Hid (bs.length ≤ 200) := Lib.hid (by rw [HBL.out]; exact HTL.out)
        obtain ⟨us, has⟩ : ∃ us, us = bs.filter (fun x => decide (x ≠ gone)) := ⟨_, rfl⟩
        have HAS := Lib.hid has
        rw [← has] at A6
        clear has
        obtain ⟨aa, ca, rfl⟩ := A6.out.slice
        obtain ⟨ab, cb, rfl⟩ := X6.out.slice
        go_wp2
        go_loopg [14, 15, 16] bs.length (fun k s14 s15 s16 wr => ∃ j n : Nat, ∃ inn : Bool, j ≤ bs.length ∧ k = bs.length - j ∧ s14 = .int .i64 n ∧ s15 = .bool inn ∧ s16 = .int .i64 j ∧ Hid (Below w6.heap.size w6 wr ∧ n = ((bs.take j).filter fun x => decide (x ≠ gone)).length ∧ inn = (bs.take j).contains gone))
        case atStart => exact ⟨0, 0, false, Nat.zero_le _, rfl, rfl, rfl, rfl, Lib.hid ⟨Below.refl _ _, rfl, rfl⟩⟩
        case round =>
          obtain ⟨j, n, inn, hj, rfl, rfl, rfl, rfl, hir⟩ := hrel
          by_cases hjlt : j < bs.length
          · obtain ⟨gb, ob, hgb, hcb⟩ := X6.out.at.each j hjlt
            subst hgb
            have p0 := hcb wr hir.out.1
            have hj0 : (0 : Int) ≤ (j : Int) := by omega
            have hjl : (j : Int) < (bs.length : Int) := by omega
            have HFT := Lib.hid (filter_take (fun x => decide (x ≠ gone)) bs j hjlt)
            have HCN := Lib.hid (contains_next bs j hjlt gone)
            by_cases hx : bs[j] = gone
            · have hx' : (bs[j] == gone) = true := by simpa using hx
              have HX := Lib.hid hx
              clear hx hcb
              generalize bs[j] = y at *
              go_wp2
              go_roundg (bs.length - (j + 1))
              case measure => omega
              case rel => exact ⟨j + 1, n, true, by omega, rfl, rfl, rfl, (by first | exact next_int j (by have := HTB.out; omega) | exact congrArg _ (by omega)), Lib.hid ⟨hir.out.1, by rw [HFT.out, hir.out.2.1, if_neg (by simp [HX.out]), Nat.add_zero], by rw [HCN.out]; simp [HX.out]⟩⟩
            · have hx' : (bs[j] == gone) = false := by simpa using hx
              obtain ⟨hn1, hn2⟩ := filter_next (fun x => decide (x ≠ gone)) bs j hjlt (by simp [hx])
              rw [← hir.out.2.1, ← HAS.out] at hn1
              have hn3 : us[n] = bs[j] := by
                have h1 := hir.out.2.1
                have h2 := HAS.out
                subst h1 h2
                exact hn2
              obtain ⟨ga, oa, hga, hca⟩ := A6.out.at.each n hn1
              subst hga
              have q0 := hca wr hir.out.1
              rw [hn3] at q0
              have hn0 : (0 : Int) ≤ (n : Int) := by omega
              have hnl : (n : Int) < (us.length : Int) := by omega
              have HX := Lib.hid hx
              have HNB : Hid (n ≤ 1000) := Lib.hid (by
                have h1 := hir.out.2.1
                have h2 : ((bs.take j).filter fun x => decide (x ≠ gone)).length ≤ (bs.take j).length := List.length_filter_le _ _
                rw [List.length_take] at h2
                have := HTB.out
                omega)
              clear hx hcb hca hn2 hn3
              generalize bs[j] = y at *
              have hyy : (y != y) = false := by simp
              go_wp2
              go_quiet (fail)
              go_wp2
              go_roundg (bs.length - (j + 1))
              case measure => omega
              case rel => exact ⟨j + 1, n + 1, inn, by omega, rfl, (by first | exact next_int n (by have := HNB.out; omega) | exact congrArg _ (by omega)), rfl, (by first | exact next_int j (by have := HTB.out; omega) | exact congrArg _ (by omega)), Lib.hid ⟨below_drewN' hir.out.1 _, by rw [HFT.out, hir.out.2.1, if_pos (by simp [HX.out])], by rw [HCN.out, hir.out.2.2]; simp [HX.out]⟩⟩
          · have hjl : (bs.length : Int) ≤ (j : Int) := by omega
            have hje : j = bs.length := by omega
            have hn : n = us.length := by
              have h1 := hir.out.2.1
              rw [hje, List.take_length, ← HAS.out] at h1
              exact h1
            have hin : inn = was := by
              have h1 := hir.out.2.2
              rw [hje, List.take_length, ← HWC.out] at h1
              exact h1
            subst hn
            subst hin
            have HIR := Lib.hid hir.out.1
            have hbl : ((bs.length : Int) == (ts.length : Int)) = true := by rw [HBL.out]; simp
            have hnn : ((us.length : Int) == (us.length : Int)) = true := by simp
            have hqq : (inn == inn) = true := by simp
            clear hir hje
            have B7 : Hid (Below w.heap.size w wr) := Lib.hid (BA.out.trans ((B6.out.trans (HIR.out.mono B6.out.size)).mono BA.out.size))
            go_wp2_with fail
            refine (first_any _ (HK.out _ B7.out)).mono ?_
            rintro e w8 ⟨rfl, hb8⟩
            have W8 := Lib.hid ((W6.out.on HIR.out).on hb8)
            have B8 : Hid (Below w.heap.size w w8) := Lib.hid (B7.out.trans (hb8.mono B7.out.size))
            clear hb8
            go_wp2_with fail
            refine (list_any wa.heap.size wa.heap.size _ _ [] w8 W8.out (by simp)).mono ?_
            rintro e w9 ⟨xl, rfl, hxl, hb9⟩
            rw [show sortI (([] : List (Int × Int)).map (·.1)) = [] by simp [sortI]] at hxl
            obtain ⟨al9, cl9, rfl⟩ := hxl.slice
            have W9 := Lib.hid (W8.out.on hb9)
            have B9 : Hid (Below w.heap.size w w9) := Lib.hid (B8.out.trans (hb9.mono B8.out.size))
            clear hxl hb9
            go_wp2_with fail
            refine (cancel_any wa.heap.size wa.heap.size _ _ [] gone w9 W9.out (by simp)).mono ?_
            rintro e w10 ⟨he, ht⟩
            subst he
            have B10 : Hid (Below w.heap.size w w10) := Lib.hid (B9.out.trans ((Turned.below W9.out (Nat.le_trans W9.out.base (Nat.le_of_lt W9.out.lt)) ht).mono BA.out.size))
            clear ht
            rw [show (atT [] gone).isSome = false from rfl]
            go_wp2
            go_ret
            exact ⟨rfl, B10.out⟩
  · have hlen' : (200 : Int) < (l.length : Int) := by omega
    go_enter Tryd.func8, Tryd.ntmps8
    go_wp2_with fail
    refine (first_any _ HG.out).mono ?_
    rintro e wa ⟨rfl, hba⟩
    have BA := Lib.hid hba
    clear hba
    go_wp2_with fail
    refine (new_any _).mono ?_
    rintro e w0 ⟨rfl, hw0⟩
    have B0 : Hid (Below w.heap.size w w0) := Lib.hid (by rw [hw0]; exact BA.out.alloc BA.out.size _)
    clear hw0
    go_wp2_with fail
    all_goals first
      | (exfalso; omega)
      | (refine (first_any _ (HK.out _ B0.out)).mono ?_
         rintro e w1 ⟨rfl, hb1⟩
         have B1 : Hid (Below w.heap.size w w1) := Lib.hid (B0.out.trans (hb1.mono B0.out.size))
         clear hb1
         go_wp2
         go_ret
         exact ⟨rfl, B1.out⟩)
end Go.Proofs.YtfefkkojdcipcaaDoor
