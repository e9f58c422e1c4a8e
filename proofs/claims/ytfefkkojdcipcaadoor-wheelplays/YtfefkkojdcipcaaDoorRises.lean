/- yardlaw4.WheelRises answers true for every list of calls and every number, and older memory stands. -/
import Derived.Test.YtfefkkojdcipcaaDoorParts
import Derived.StillTailTactics
namespace Go.Proofs.YtfefkkojdcipcaaDoor
open Go.RowKit Go.Extern.Stop Go.Stop Go.Extern

theorem own_lit (w : World) (x : Int) : IntsOwn (w.alloc (.cells #[.int .i64 x] 3)) (.slice (some ⟨w.heap.size, 0, none⟩) 1 1) [x] := ⟨w.heap.size, World.ownsRow_lit w #[.int .i64 x] 1 (Nat.le_refl _) (by unfold maxLen; omega) (by simp)⟩
/-- The time of a timer, 0 if there is none. -/
def atV (ts : List (Int × Int)) (id : Int) : Int := (atT ts id).getD 0
theorem map_next (f : Int → Int) (l : List Int) (j : Nat) (h : j < l.length) : (l.take (j + 1)).map f = (l.take j).map f ++ [f l[j]] := by
  rw [← List.take_append_getElem h, List.map_append]
  rfl
def RInv (wl : World) (xs : List Int) (v : Value) (wr : World) : Prop := Below wl.heap.size wl wr ∧ wr.ownsRow wl.heap.size 3 1 v xs.length (icells xs)
/-- The last that was told. -/
def lastT (D : List (Int × Int)) (j : Nat) : Int × Int := if j = 0 then (-1, -1) else (D.getD (j - 1) (0, 0))
theorem last_next (D : List (Int × Int)) (j : Nat) (h : j < D.length) : lastT D (j + 1) = D[j] := by
  unfold lastT
  rw [if_neg (by omega), Nat.add_sub_cancel]
  simp [List.getD, List.getElem?_eq_getElem h]
theorem last_before {D : List (Int × Int)} (h : Good D) (j : Nat) (hj : j < D.length) : (lastT D j).2 < D[j].2 ∨ ((lastT D j).2 = D[j].2 ∧ (lastT D j).1 < D[j].1) := by
  unfold lastT
  split
  · have := (h.rng D[j] (List.getElem_mem hj)).2.1
    left
    show (-1 : Int) < _
    omega
  · have h1 : j - 1 < D.length := by omega
    have h2 : D.getD (j - 1) (0, 0) = D[j - 1] := by simp [List.getD, List.getElem?_eq_getElem h1]
    rw [h2]
    have h3 := List.pairwise_iff_getElem.1 h.sorted (j - 1) j h1 hj (by omega)
    rw [before_iff] at h3
    exact h3
theorem contains_take (l : List Int) (k : Nat) (hk : k < l.length) (y : Int) : (l.take (k + 1)).contains y = ((l.take k).contains y || decide (l[k] = y)) := by
  rw [← List.take_append_getElem hk, Bool.eq_iff_iff]
  simp only [List.contains_iff_mem, List.mem_append, List.mem_singleton, Bool.or_eq_true, decide_eq_true_eq]
  constructor
  · rintro (h | h)
    · exact .inl h
    · exact .inr h.symm
  · rintro (h | h)
    · exact .inl h
    · exact .inr h.symm

set_option maxRecDepth 100000 in
set_option maxHeartbeats 8000000 in
theorem rises_any (v : Value) (l : List OpV) (n : Int) (w : World) (hv : OpsAt w v l) (hg : ErrT w) : Calls Tryd.prog 7 #[v, .int .i64 n] w (Fine w) := by
  have HK : Hid (∀ W : World, Below w.heap.size w W → ErrT W) := Lib.hid fun W hb => hg.up hb
  have HV := Lib.hid hv
  have HG := Lib.hid hg
  obtain ⟨ao, cap, rfl, hx⟩ := hv
  clear hg hx
  by_cases hlen : l.length ≤ 200 ∧ 0 ≤ n ∧ n ≤ 1099511627776
  · have hlen' : (l.length : Int) ≤ 200 := by omega
    have HL := Lib.hid hlen.1
    obtain ⟨_, hn0, hn1⟩ := hlen
    go_enter Tryd.func7, Tryd.ntmps7
    go_wp2_with fail
    refine (first_any _ HG.out).mono ?_
    rintro e wa ⟨rfl, hba⟩
    have BA := Lib.hid hba
    clear hba
    go_wp2_with fail
    refine (new_any _).mono ?_
    rintro e w0 ⟨rfl, hw0⟩
    have H0 : Hid (WhAt w0 wa.heap.size wa.heap.size 0 (.slice none 0 0) []) := Lib.hid (by rw [hw0]; exact whAt_new wa)
    have B0 : Hid (Below wa.heap.size wa w0) := Lib.hid (by rw [hw0]; exact below_new wa _)
    clear hw0
    go_wp2
    go_loopg [8] l.length (fun k s8 wr => ∃ i : Nat, i ≤ l.length ∧ k = l.length - i ∧ s8 = .int .i64 i ∧ Hid (SetsInv wa.heap.size wa i wr))
    case atStart => exact ⟨0, Nat.zero_le _, rfl, rfl, Lib.hid ⟨_, [], H0.out, good_nil, Nat.zero_le _, B0.out⟩⟩
    case round =>
      obtain ⟨wo, hwo⟩ : ∃ x, x = wr := ⟨wr, rfl⟩
      subst hwo
      obtain ⟨i, hi, rfl, rfl, hinv⟩ := hrel
      by_cases hlt : i < l.length
      · obtain ⟨v1, ts, hw, hgood, htl, hbr⟩ := hinv.out
        have HW := Lib.hid hw
        have HGD := Lib.hid (And.intro hgood htl)
        have HBR : Hid (Below w.heap.size w wo) := Lib.hid (BA.out.trans (hbr.mono BA.out.size))
        have HBA := Lib.hid hbr
        obtain ⟨b, off, hb, hc⟩ := HV.out.each i hlt
        subst hb
        generalize l[i].kind = K at *
        generalize l[i].n = N at *
        generalize l[i].a = A at *
        obtain ⟨c0, c1, c2⟩ := hc wo HBR.out
        clear hc hw hgood htl hbr hinv
        have hi0 : (0 : Int) ≤ (i : Int) := by omega
        have hil : (i : Int) < (l.length : Int) := by omega
        go_wp2
        go_still_tail 11, (by kernel_rfl)
        go_wp2_with fail
        have HS := Lib.hid (set_any wa.heap.size wa.heap.size 0 v1 ts N A wo.drew (HW.out.on (Below.refl _ _).drew) (by have := HGD.out.2; have := HL.out; omega) (by omega) (by omega))
        have HTT : Hid (Good (setA 0 ts N A) ∧ (setA 0 ts N A).length ≤ i + 1) := Lib.hid ⟨good_setA N A HGD.out.1 (by omega) (by omega), Nat.le_trans (setA_length 0 ts N A) (by have := HGD.out.2; omega)⟩
        refine HS.out.mono ?_
        rintro e w2 ⟨x, v2, rfl, hans, st⟩
        have HN : Hid (SetsInv wa.heap.size wa (i + 1) w2) := Lib.hid ⟨v2, _, st.wh, HTT.out.1, HTT.out.2, HBA.out.drew.trans st.below⟩
        clear st hans
        go_wp2
        go_roundg (l.length - (i + 1))
        case measure => omega
        case rel => exact ⟨i + 1, by omega, rfl, (by first | exact next_int i (by have := HL.out; omega) | exact congrArg _ (by omega)), HN⟩
      · have hil : (l.length : Int) ≤ (i : Int) := by omega
        obtain ⟨v1, ts, hw, hgood, htl, hbr⟩ := hinv.out
        have HW := Lib.hid hw
        have HGD := Lib.hid hgood
        have HTL : Hid (ts.length ≤ 200) := Lib.hid (by have := HL.out; omega)
        have HBA := Lib.hid hbr
        clear hw hgood htl hbr hinv
        go_wp2_with fail
        refine (list_any wa.heap.size wa.heap.size 0 v1 ts wo HW.out (by have := HTL.out; omega)).mono ?_
        rintro e wl ⟨xl, rfl, hxl, hb2⟩
        have WL := Lib.hid (HW.out.on hb2)
        have BL : Hid (Below wa.heap.size wa wl) := Lib.hid (HBA.out.trans (hb2.mono HBA.out.size))
        have XL := Lib.hid hxl
        have HIL : Hid ((sortI (ts.map (·.1))).length = ts.length) := Lib.hid (by rw [sortI_length, List.length_map])
        have HIM : Hid (∀ t ∈ ts, t.1 ∈ sortI (ts.map (·.1))) := Lib.hid fun t ht => mem_sortI.2 ⟨t, ht, rfl⟩
        clear hxl hb2
        generalize sortI (ts.map (·.1)) = ids at *
        have HIB : Hid (ids.length ≤ 200) := Lib.hid (by rw [HIL.out]; exact HTL.out)
        obtain ⟨al, cl, rfl⟩ := XL.out.slice
        go_wp2
        go_loopg [7, 9] ids.length (fun k s7 s9 wr => ∃ j : Nat, j ≤ ids.length ∧ k = ids.length - j ∧ s9 = .int .i64 j ∧ Hid (RInv wl ((ids.take j).map (atV ts)) s7 wr))
        case atStart => exact ⟨0, Nat.zero_le _, rfl, rfl, Lib.hid ⟨Below.refl _ _, World.ownsRow_nil _ _ _ _⟩⟩
        case round =>
          obtain ⟨wi, hwi⟩ : ∃ x, x = wr := ⟨wr, rfl⟩
          subst hwi
          obtain ⟨j, hj, rfl, rfl, hir⟩ := hrel
          obtain ⟨hbi, hown⟩ := hir.out
          have BI := Lib.hid hbi
          obtain ⟨xs, hxs⟩ : ∃ xs, xs = (ids.take j).map (atV ts) := ⟨_, rfl⟩
          rw [← hxs] at hown
          have HXS := Lib.hid hxs
          have OWN := Lib.hid hown
          obtain ⟨ax, cx, rfl⟩ := row_slice hown
          clear hir hbi hown hxs
          by_cases hjlt : j < ids.length
          · obtain ⟨gl, ol, hgl, hcl⟩ := XL.out.at.each j hjlt
            subst hgl
            have p0 := hcl wi BI.out
            have hj0 : (0 : Int) ≤ (j : Int) := by omega
            have hjl : (j : Int) < (ids.length : Int) := by omega
            have HMN := Lib.hid (map_next (atV ts) ids j hjlt)
            clear hcl
            generalize ids[j] = y at *
            go_wp2_with fail
            refine (at_any wa.heap.size wa.heap.size 0 v1 ts y wi (WL.out.on BI.out) (by have := HTL.out; omega)).mono ?_
            rintro e w3 ⟨he, hb3⟩
            change e = .returned (.tuple #[.int .i64 (atV ts y), .bool (atT ts y).isSome]) at he
            subst he
            have B3 : Hid (Below wl.heap.size wl w3) := Lib.hid (BI.out.trans (hb3.mono BI.out.size))
            have O3 := Lib.hid (ownsRow_below OWN.out hb3)
            clear hb3 p0
            generalize atV ts y = a at *
            generalize (atT ts y).isSome = ok
            have BN : Hid (Below wl.heap.size wl (w3.alloc (.cells #[.int .i64 a] 3))) := Lib.hid (B3.out.alloc B3.out.size _)
            obtain ⟨v6, w6, happ, ho6, hk6⟩ := app_ints (w3.alloc (.cells #[.int .i64 a] 3)) wl.heap.size _ _ xs [a] (O3.out.alloc _) (own_lit w3 a) BN.out.size (by rw [HXS.out, List.length_map, List.length_take]; have := HIB.out; simp; omega)
            have HN : Hid (RInv wl ((ids.take (j + 1)).map (atV ts)) v6 w6) := Lib.hid ⟨BN.out.trans (hk6.below BN.out.size (fun k hk => (O3.out.lt k hk).1)), by rw [HMN.out, ← HXS.out]; exact ho6⟩
            obtain ⟨av6, cv6, rfl⟩ := row_slice ho6
            clear ho6 hk6
            generalize (xs ++ [a]).length = nn at *
            go_wp2_with (at_builtin; refine Lib.wpList_append_run _ rfl _ _ _ _ rfl _ _ rfl rfl _ _ happ ?_)
            go_roundg (ids.length - (j + 1))
            case measure => omega
            case rel => exact ⟨j + 1, by omega, rfl, (by first | exact next_int j (by have := HIB.out; omega) | exact congrArg _ (by omega)), HN⟩
          · have hjl : (ids.length : Int) ≤ (j : Int) := by omega
            have HXA : Hid (xs = ids.map (atV ts)) := Lib.hid (by rw [HXS.out, List.take_of_length_le (by omega)])
            have HXL : Hid (xs.length = ids.length) := Lib.hid (by rw [HXA.out, List.length_map])
            have WI := Lib.hid (WL.out.on BI.out)
            have XI := Lib.hid (XL.out.on BI.out)
            have AI := Lib.hid (own_ints OWN.out)
            go_wp2_with fail
            refine (tick_ok wa.heap.size wa.heap.size 0 v1 ts n wi WI.out (by have := HTL.out; omega) hn0 hn1 (by omega) (by omega)).mono ?_
            rintro e w5 ⟨xo, rfl, hxo, ht⟩
            have hlat : laterT 0 n = n := by rw [later_in (by omega), Int.zero_add]
            rw [hlat] at hxo ht
            clear hlat
            obtain ⟨v5, st⟩ := ht.step WI.out
            have W5 := Lib.hid st.wh
            have X5 := Lib.hid (st.ints _ _ XI.out)
            have A5 := Lib.hid (st.ints _ _ AI.out)
            have O5 := Lib.hid hxo
            have B5 : Hid (Below w.heap.size w w5) := Lib.hid (BA.out.trans (((BL.out.trans (BI.out.mono BL.out.size)).trans st.below).mono BA.out.size))
            have HDR : Hid ((dueT n ts).length + (restT n ts).length = ts.length) := Lib.hid (due_rest_length n ts)
            have HDG : Hid (Good (dueT n ts)) := Lib.hid (good_due n HGD.out)
            have HDA : Hid (∀ s ∈ dueT n ts, s.2 ≤ n ∧ s.1 ∈ ids ∧ atV ts s.1 = s.2) := Lib.hid fun s hs => by
              have hm : s ∈ ts := (List.takeWhile_sublist _).subset hs
              exact ⟨due_late s hs, HIM.out s hm, by unfold atV; rw [atT_mem HGD.out.nodup s hm]; rfl⟩
            have HRL : Hid (∀ s, (restT n ts).head? = some s → n < s.2) := Lib.hid fun s hs => rest_late hs
            clear ht st hxo
            generalize dueT n ts = D at *
            generalize restT n ts = R at *
            obtain ⟨ys, hys⟩ : ∃ ys, ys = D.map (·.1) := ⟨_, rfl⟩
            rw [← hys] at O5
            have HYL : Hid (ys.length = D.length) := Lib.hid (by rw [hys, List.length_map])
            have HYS := Lib.hid hys
            clear hys
            have HYB : Hid (ys.length ≤ 200) := Lib.hid (by have := HYL.out; have := HDR.out; have := HTL.out; omega)
            obtain ⟨ao5, co5, rfl⟩ := O5.out.slice
            go_wp2
            go_loopg [14, 15, 16] ys.length (fun k s14 s15 s16 wr => ∃ j : Nat, j ≤ ys.length ∧ k = ys.length - j ∧ s14 = .int .i64 (lastT D j).2 ∧ s15 = .int .i64 (lastT D j).1 ∧ s16 = .int .i64 j ∧ Hid (Below w5.heap.size w5 wr))
            case atStart => exact ⟨0, Nat.zero_le _, rfl, rfl, rfl, rfl, Lib.hid (Below.refl _ _)⟩
            case round =>
              obtain ⟨w7, hw7⟩ : ∃ x, x = wr := ⟨wr, rfl⟩
              subst hw7
              obtain ⟨j7, hj7, rfl, rfl, rfl, rfl, hb7⟩ := hrel
              by_cases hjlt7 : j7 < ys.length
              · obtain ⟨go, oo, hgo, hco⟩ := O5.out.at.each j7 hjlt7
                subst hgo
                have HCO := Lib.hid hco
                have hjD : j7 < D.length := by have := HYL.out; omega
                have hyD : ys[j7] = D[j7].1 := by
                  have h1 := HYS.out
                  subst h1
                  simp
                have HY : Hid (D[j7].2 ≤ n ∧ D[j7].1 ∈ ids ∧ atV ts D[j7].1 = D[j7].2) := Lib.hid (HDA.out _ (List.getElem_mem hjD))
                have HLB := Lib.hid (last_before HDG.out j7 hjD)
                have HLN := Lib.hid (last_next D j7 hjD)
                rw [hyD] at HCO
                have hj0 : (0 : Int) ≤ (j7 : Int) := by omega
                have hjl7 : (j7 : Int) < (ys.length : Int) := by omega
                clear hco hyD
                obtain ⟨y, hy⟩ : ∃ y, y = D[j7].1 := ⟨_, rfl⟩
                obtain ⟨a, ha⟩ : ∃ a, a = D[j7].2 := ⟨_, rfl⟩
                obtain ⟨lt, hlt'⟩ : ∃ lt, lt = (lastT D j7).2 := ⟨_, rfl⟩
                obtain ⟨ln, hln'⟩ : ∃ ln, ln = (lastT D j7).1 := ⟨_, rfl⟩
                rw [← hy, ← ha] at HY
                rw [← hy] at HCO
                rw [← hy, ← ha, ← hlt', ← hln'] at HLB
                rw [← hlt', ← hln']
                have HYA := Lib.hid (And.intro hy ha)
                clear hlt' hln' hy ha
                go_wp2
                go_loopg [17, 18] ids.length (fun k s17 s18 wr => ∃ k4 : Nat, k4 ≤ ids.length ∧ k = ids.length - k4 ∧ s17 = .int .i64 (if (ids.take k4).contains y = true then a else -1) ∧ s18 = .int .i64 k4 ∧ Hid (Below w5.heap.size w5 wr))
                case atStart => exact ⟨0, Nat.zero_le _, rfl, rfl, rfl, hb7⟩
                case round =>
                  obtain ⟨k4, hk4, rfl, rfl, rfl, hb8⟩ := hrel
                  have q0 := HCO.out wr hb8.out
                  by_cases hklt : k4 < ids.length
                  · obtain ⟨gi, oi, hgi, hci⟩ := X5.out.at.each k4 hklt
                    subst hgi
                    have q1 := hci wr hb8.out
                    have hkx : k4 < xs.length := by have := HXL.out; omega
                    obtain ⟨ga, oa, hga, hca⟩ := A5.out.at.each k4 hkx
                    subst hga
                    have q2 := hca wr hb8.out
                    have hxe : xs[k4] = atV ts ids[k4] := by
                      have h1 := HXA.out
                      subst h1
                      simp
                    rw [hxe] at q2
                    have HCT := Lib.hid (contains_take ids k4 hklt y)
                    have hk0 : (0 : Int) ≤ (k4 : Int) := by omega
                    have hkl : (k4 : Int) < (ids.length : Int) := by omega
                    have hkl' : (k4 : Int) < (xs.length : Int) := by omega
                    clear hci hca hxe
                    generalize ids[k4] = z at *
                    generalize hold : (if (ids.take k4).contains y = true then a else -1) = told at *
                    have HOLD := Lib.hid hold
                    clear hold
                    by_cases hzy : z = y
                    · subst hzy
                      have hzz : (z == z) = true := by simp
                      have HNX : Hid ((if (ids.take (k4 + 1)).contains z = true then a else -1) = atV ts z) := Lib.hid (by rw [HCT.out]; simp [HY.out.2.2])
                      generalize atV ts z = az at *
                      go_wp2_with fail
                      go_quiet (fail)
                      go_wp2
                      go_roundg (ids.length - (k4 + 1))
                      case measure => omega
                      case rel => exact ⟨k4 + 1, by omega, rfl, congrArg _ HNX.out.symm, (by first | exact next_int k4 (by have := HIB.out; omega) | exact congrArg _ (by omega)), Lib.hid (below_drewN' hb8.out _)⟩
                    · have hzy' : (z == y) = false := by simpa using hzy
                      have HNX : Hid ((if (ids.take (k4 + 1)).contains y = true then a else -1) = told) := Lib.hid (by rw [HCT.out, ← HOLD.out]; simp [hzy])
                      clear hzy
                      go_wp2_with fail
                      go_quiet (fail)
                      go_wp2
                      go_roundg (ids.length - (k4 + 1))
                      case measure => omega
                      case rel => exact ⟨k4 + 1, by omega, rfl, congrArg _ HNX.out.symm, (by first | exact next_int k4 (by have := HIB.out; omega) | exact congrArg _ (by omega)), Lib.hid (below_drewN' hb8.out _)⟩
                  · have hkl : (ids.length : Int) ≤ (k4 : Int) := by omega
                    have hta : (if (ids.take k4).contains y = true then a else -1) = a := by
                      rw [List.take_of_length_le (by omega), if_pos (List.contains_iff_mem.2 HY.out.2.1)]
                    rw [hta]
                    clear hta
                    have han : a ≤ n := HY.out.1
                    rcases HLB.out with hb | ⟨hb, hb'⟩
                    · have h1 : (a == lt) = false := by simp; omega
                      have h2 : lt ≤ a := by omega
                      go_wp2_with fail
                      go_quiet (fail)
                      go_wp2
                      go_roundg (ys.length - (j7 + 1))
                      case measure => omega
                      case rel => exact ⟨j7 + 1, by omega, rfl, by rw [HLN.out, HYA.out.2], by rw [HLN.out, HYA.out.1], (by first | exact next_int j7 (by have := HYB.out; omega) | exact congrArg _ (by omega)), Lib.hid (below_drewN' hb8.out _)⟩
                    · have h1 : (a == lt) = true := by simp; omega
                      have h2 : lt ≤ a := by omega
                      go_wp2_with fail
                      go_quiet (fail)
                      go_wp2
                      go_roundg (ys.length - (j7 + 1))
                      case measure => omega
                      case rel => exact ⟨j7 + 1, by omega, rfl, by rw [HLN.out, HYA.out.2], by rw [HLN.out, HYA.out.1], (by first | exact next_int j7 (by have := HYB.out; omega) | exact congrArg _ (by omega)), Lib.hid (below_drewN' hb8.out _)⟩
              · have hjl7 : (ys.length : Int) ≤ (j7 : Int) := by omega
                generalize (lastT D j7).2 = lt
                generalize (lastT D j7).1 = ln
                have W7 := Lib.hid (W5.out.on hb7.out)
                have B7 : Hid (Below w.heap.size w w7) := Lib.hid (B5.out.trans (hb7.out.mono B5.out.size))
                have HRB : Hid (R.length ≤ 200) := Lib.hid (by have := HDR.out; have := HTL.out; omega)
                go_wp2_with fail
                refine (next_any wa.heap.size wa.heap.size n v5 R w7 W7.out).mono ?_
                rintro e w8 ⟨rfl, rfl⟩
                go_wp2_with fail
                refine (first_any _ (HK.out _ B7.out)).mono ?_
                rintro e w9 ⟨rfl, hb9⟩
                have W9 := Lib.hid (W7.out.on hb9)
                have B9 : Hid (Below w.heap.size w w9) := Lib.hid (B7.out.trans (hb9.mono B7.out.size))
                clear hb9
                go_wp2_with fail
                refine (now_any wa.heap.size wa.heap.size n v5 R w9 W9.out).mono ?_
                rintro e w10 ⟨rfl, rfl⟩
                have hnn : (n == n) = true := by simp
                have HHD : Hid (R.head? = none ∨ ∃ s, R.head? = some s ∧ n < s.2) := Lib.hid (by
                  cases hr : R.head? with
                  | none => exact .inl rfl
                  | some s => exact .inr ⟨s, rfl, HRL.out s hr⟩)
                have hsum : ((ys.length : Int) + (R.length : Int) == (ids.length : Int)) = true := by
                  have h1 := HYL.out
                  have h2 := HDR.out
                  have h3 := HIL.out
                  simp
                  omega
                have HRB2 : (R.length : Int) ≤ 200 := by have := HRB.out; omega
                have HYB2 : (ys.length : Int) ≤ 200 := by have := HYB.out; omega
                rcases HHD.out with hr | ⟨s, hr, hs⟩
                · rw [hr]
                  simp only [Option.map_none, Option.getD_none, Option.isSome_none]
                  go_wp2_with fail
                  refine (list_any wa.heap.size wa.heap.size n v5 R w9 W9.out (by have := HRB.out; omega)).mono ?_
                  rintro e w11 ⟨xr, rfl, hxr, hb11⟩
                  obtain ⟨ar, cr, rfl⟩ := hxr.slice
                  rw [sortI_length, List.length_map]
                  have B11 : Hid (Below w.heap.size w w11) := Lib.hid (B9.out.trans (hb11.mono B9.out.size))
                  clear hxr hb11
                  go_wp2
                  go_ret
                  exact ⟨rfl, B11.out⟩
                · rw [hr]
                  simp only [Option.map_some, Option.getD_some, Option.isSome_some]
                  generalize s.2 = s2 at *
                  go_wp2_with fail
                  refine (list_any wa.heap.size wa.heap.size n v5 R w9 W9.out (by have := HRB.out; omega)).mono ?_
                  rintro e w11 ⟨xr, rfl, hxr, hb11⟩
                  obtain ⟨ar, cr, rfl⟩ := hxr.slice
                  rw [sortI_length, List.length_map]
                  have B11 : Hid (Below w.heap.size w w11) := Lib.hid (B9.out.trans (hb11.mono B9.out.size))
                  clear hxr hb11
                  go_wp2
                  go_ret
                  exact ⟨rfl, B11.out⟩
  · have hlen' : (200 : Int) < (l.length : Int) ∨ ((l.length : Int) ≤ 200 ∧ n < 0) ∨ ((l.length : Int) ≤ 200 ∧ 0 ≤ n ∧ 1099511627776 < n) := by omega
    clear hlen
    go_enter Tryd.func7, Tryd.ntmps7
    go_wp2_with fail
    refine (first_any _ HG.out).mono ?_
    rintro e wa ⟨rfl, hba⟩
    have BA := Lib.hid hba
    clear hba
    go_wp2_with fail
    refine (new_any _).mono ?_
    rintro e w0 ⟨rfl, hw0⟩
    have B0 : Hid (Below w.heap.size w w0) := Lib.hid (by rw [hw0]; exact BA.out.alloc BA.out.size _)
    clear hw0
    go_wp2_with fail
    all_goals first
      | (exfalso; omega)
      | (refine (first_any _ (HK.out _ B0.out)).mono ?_
         rintro e w1 ⟨rfl, hb1⟩
         have B1 : Hid (Below w.heap.size w w1) := Lib.hid (B0.out.trans (hb1.mono B0.out.size))
         clear hb1
         go_wp2
         go_ret
         exact ⟨rfl, B1.out⟩)
end Go.Proofs.YtfefkkojdcipcaaDoor
