/- yardlaw4.WheelParts answers true for every list of calls and every row of parts, and older memory stands. -/
import Derived.Test.YtfefkkojdcipcaaDoorAny
import Derived.StillTailTactics
namespace Go.Proofs.YtfefkkojdcipcaaDoor
open Go.RowKit Go.Extern.Stop Go.Stop Go.Extern

theorem app_ints (W : World) (B : Nat) (xo xa : Value) (os us : List Int) (hown : W.ownsRow B 3 1 xo os.length (icells os)) (ha : IntsOwn W xa us) (hB : B ≤ W.heap.size) (hl : os.length + us.length ≤ 1000000) :
    ∃ v' w', (Builtin.append_ #[42, 42] 42 #[xo, xa]).run Tryd.prog W = .ok v' w' ∧ w'.ownsRow B 3 1 v' (os ++ us).length (icells (os ++ us)) ∧ Off (fun k => xo.ownBlock = some k) W w' := by
  obtain ⟨i0, hi0, hz0, hz1, hz2⟩ := info3p
  have hcat : icells (os ++ us) = icells os ++ icells us := by simp [icells]
  obtain ⟨B2, ha⟩ := ha
  rcases ha.2 with ⟨hv, h0⟩ | ⟨g, cap, cur, hv, _, hh, hc, hm, hz, hx⟩
  · have hu : us = [] := List.length_eq_zero_iff.1 h0
    subst hu
    subst hv
    refine ⟨xo, W, ?_, by rw [List.append_nil]; exact hown, Off.refl _ _⟩
    obtain ⟨ao, n, cp, hxo, hcp⟩ : ∃ ao n cp, xo = .slice ao n cp ∧ n ≤ cp := by
      rcases hown.2 with ⟨h1, h2⟩ | ⟨g, cap, cur, h1, _, _, h2, _⟩
      · exact ⟨none, 0, 0, h1, Nat.le_refl _⟩
      · exact ⟨_, _, cap, h1, h2⟩
    subst hxo
    have hn : ¬ (cp < n) := by omega
    cases ao <;> simp [Builtin.append_, run_underlying Tryd.underlying42, sizeOf, typeInfo, hi0, Builtin.lenOf, Builtin.firstCells, storeCells, hcp]
  · subst hv
    obtain ⟨v', w', h1, h2, h3, _⟩ := run_append_own_at (P := Tryd.prog) W B 42 42 3 i0 (.int .i64 0) 1 8 Tryd.underlying42 hi0 hz0 hz1 hz2 rfl (by omega) xo os.length (icells os) hown ⟨g, 0, none⟩ us.length cap (icells us) (by rw [icells_length]; omega) (fun j u hj => by
      rw [Addr.add_lit, Nat.zero_add, cell_of_row _ _ _ _ _ _ hh, ← Array.getElem?_toList]
      rw [← hx, List.getElem?_take] at hj
      split at hj
      · exact hj
      · cases hj) (by intro u hu; simp only [icells, List.mem_map] at hu; obtain ⟨y, _, rfl⟩ := hu; rfl) (by unfold maxLen; omega) (by omega) hB
    exact ⟨v', w', h1, by rw [List.length_append, hcat]; exact h2, Off.of_grown h3⟩
theorem own_ints {w : World} {B : Nat} {v : Value} {l : List Int} (h : w.ownsRow B 3 1 v l.length (icells l)) : IntsOwn w v l := ⟨B, h⟩
/-- The Wheel at the loop of Sets, each of its timers later than 0. -/
def SetsPos (S : Nat) (w0 : World) (i : Nat) (wr : World) : Prop := ∃ v ts, WhAt wr S S 0 v ts ∧ Good ts ∧ (∀ t ∈ ts, 0 < t.2) ∧ ts.length ≤ i ∧ Below S w0 wr
theorem pos_setA {ts : List (Int × Int)} {N A : Int} (h : ∀ t ∈ ts, 0 < t.2) (hA : 0 < A) : ∀ t ∈ setA 0 ts N A, 0 < t.2 := fun t ht => by
  unfold setA at ht
  split at ht
  · rcases mem_insT.1 ht with rfl | ht
    · unfold laterT
      omega
    · exact h t ((eraseT_sub ts N).subset ht)
  · exact h t ht
theorem due_none {ts : List (Int × Int)} (h : ∀ t ∈ ts, 0 < t.2) : dueT 0 ts = [] ∧ restT 0 ts = ts := by
  cases ts with
  | nil => exact ⟨rfl, rfl⟩
  | cons x l =>
    have hx : ¬ x.2 ≤ 0 := by have := h x (by simp); omega
    unfold dueT restT
    rw [List.takeWhile_cons_of_neg (by simpa using hx), List.dropWhile_cons_of_neg (by simpa using hx)]
    exact ⟨rfl, rfl⟩
/-- The two Wheels and what was told so far, at the loop of parts. -/
def PartsInv (S B2 q : Nat) (vc : Value) (ts : List (Int × Int)) (wa : World) (T : Int) (j : Nat) (xo : Value) (wr : World) : Prop :=
  ∃ v, WhAt wr S S T v (restT T ts) ∧ wr.ownsRow S 3 1 xo ((dueT T ts).map (·.1)).length (icells ((dueT T ts).map (·.1))) ∧ (0 ≤ T ∧ T ≤ 1000 * j) ∧ WhAt wr B2 q 0 vc ts ∧ (∀ k, Wrote S v k → ¬ Wrote q vc k) ∧ Below S wa wr

set_option maxRecDepth 100000 in
set_option maxHeartbeats 8000000 in
theorem parts_any (v vm : Value) (l : List OpV) (m : List Int) (w : World) (hv : OpsAt w v l) (hvm : IntsAt w vm m) (hg : ErrT w) : Calls Tryd.prog 4 #[v, vm] w (Fine w) := by
  have HK : Hid (∀ W : World, Below w.heap.size w W → ErrT W) := Lib.hid fun W hb => hg.up hb
  have HV := Lib.hid hv
  have HG := Lib.hid hg
  have HM := Lib.hid hvm
  obtain ⟨ao, cap, rfl, hx⟩ := hv
  obtain ⟨am, cm, rfl, hxm⟩ := hvm
  clear hg hx hxm
  by_cases hlen : l.length ≤ 200 ∧ m.length ≤ 200
  · have hlen' : (l.length : Int) ≤ 200 := by omega
    have hlenm : (m.length : Int) ≤ 200 := by omega
    have HL := Lib.hid hlen.1
    have HLM := Lib.hid hlen.2
    clear hlen
    go_enter Tryd.func4, Tryd.ntmps4
    go_wp2_with fail
    refine (first_any _ HG.out).mono ?_
    rintro e wa ⟨rfl, hba⟩
    have BA := Lib.hid hba
    clear hba
    go_wp2_with fail
    refine (new_any _).mono ?_
    rintro e w0 ⟨rfl, hw0⟩
    have H0 : Hid (WhAt w0 wa.heap.size wa.heap.size 0 (.slice none 0 0) []) := Lib.hid (by rw [hw0]; exact whAt_new wa)
    have B0 : Hid (Below wa.heap.size wa w0) := Lib.hid (by rw [hw0]; exact below_new wa _)
    clear hw0
    go_wp2
    go_loopg [6] l.length (fun k s6 wr => ∃ i : Nat, i ≤ l.length ∧ k = l.length - i ∧ s6 = .int .i64 i ∧ Hid (SetsPos wa.heap.size wa i wr))
    case atStart => exact ⟨0, Nat.zero_le _, rfl, rfl, Lib.hid ⟨_, [], H0.out, good_nil, (fun t ht => by cases ht), Nat.zero_le _, B0.out⟩⟩
    case round =>
      obtain ⟨wo, hwo⟩ : ∃ x, x = wr := ⟨wr, rfl⟩
      subst hwo
      obtain ⟨i, hi, rfl, rfl, hinv⟩ := hrel
      by_cases hlt : i < l.length
      · obtain ⟨v1, ts, hw, hgood, hpos, htl, hbr⟩ := hinv.out
        have HPOS := Lib.hid hpos
        have HW := Lib.hid hw
        have HGD := Lib.hid (And.intro hgood htl)
        have HBR : Hid (Below w.heap.size w wo) := Lib.hid (BA.out.trans (hbr.mono BA.out.size))
        have HBA := Lib.hid hbr
        obtain ⟨b, off, hb, hc⟩ := HV.out.each i hlt
        subst hb
        generalize l[i].kind = K at *
        generalize l[i].n = N at *
        generalize l[i].a = A at *
        obtain ⟨c0, c1, c2⟩ := hc wo HBR.out
        clear hc hw hgood htl hbr hinv hpos
        have hi0 : (0 : Int) ≤ (i : Int) := by omega
        have hil : (i : Int) < (l.length : Int) := by omega
        by_cases hA : 0 < A
        · go_wp2
          go_still_tail 11, (by kernel_rfl)
          go_wp2_with fail
          have HS := Lib.hid (set_any wa.heap.size wa.heap.size 0 v1 ts N A wo.drew (HW.out.on (Below.refl _ _).drew) (by have := HGD.out.2; have := HL.out; omega) (by omega) (by omega))
          have HTT : Hid (Good (setA 0 ts N A) ∧ (setA 0 ts N A).length ≤ i + 1) := Lib.hid ⟨good_setA N A HGD.out.1 (by omega) (by omega), Nat.le_trans (setA_length 0 ts N A) (by have := HGD.out.2; omega)⟩
          refine HS.out.mono ?_
          rintro e w2 ⟨x, v2, rfl, hans, st⟩
          have HN : Hid (SetsPos wa.heap.size wa (i + 1) w2) := Lib.hid ⟨v2, _, st.wh, HTT.out.1, pos_setA HPOS.out hA, HTT.out.2, HBA.out.drew.trans st.below⟩
          clear st hans
          go_wp2
          go_roundg (l.length - (i + 1))
          case measure => omega
          case rel => exact ⟨i + 1, by omega, rfl, (by first | exact next_int i (by have := HL.out; omega) | exact congrArg _ (by omega)), HN⟩
        · have HN : Hid (SetsPos wa.heap.size wa (i + 1) wo) := Lib.hid ⟨v1, ts, HW.out, HGD.out.1, HPOS.out, by have := HGD.out.2; omega, HBA.out⟩
          go_wp2
          go_roundg (l.length - (i + 1))
          case measure => omega
          case rel => exact ⟨i + 1, by omega, rfl, (by first | exact next_int i (by have := HL.out; omega) | exact congrArg _ (by omega)), HN⟩
      · have hil : (l.length : Int) ≤ (i : Int) := by omega
        obtain ⟨v1, ts, hw, hgood, hpos, htl, hbr⟩ := hinv.out
        have HW := Lib.hid hw
        have HGD := Lib.hid hgood
        have HPOS := Lib.hid hpos
        have HTL : Hid (ts.length ≤ 200) := Lib.hid (by have := HL.out; omega)
        have HBA := Lib.hid hbr
        clear hw hgood htl hbr hinv hpos
        go_wp2_with fail
        refine (copy_any wa.heap.size wa.heap.size 0 v1 ts wo HW.out (by have := HTL.out; omega)).mono ?_
        rintro e w3 ⟨q, vc, rfl, hcw, hb3⟩
        have C3 := Lib.hid hcw
        have W3 := Lib.hid (HW.out.on hb3)
        have AP : Hid (∀ k, Wrote wa.heap.size v1 k → ¬ Wrote q vc k) := Lib.hid (copy_apart HW.out hcw)
        have B3 : Hid (Below wa.heap.size wa w3) := Lib.hid (HBA.out.trans (hb3.mono HBA.out.size))
        have SB : Hid (wa.heap.size ≤ wo.heap.size) := Lib.hid HBA.out.size
        clear hcw hb3
        go_wp2
        generalize wo.heap.size = B2 at *
        go_loopg [8, 9, 10] m.length (fun k s8 s9 s10 wr => ∃ (j : Nat) (T : Int), j ≤ m.length ∧ k = m.length - j ∧ s9 = .int .i64 T ∧ s10 = .int .i64 j ∧ Hid (PartsInv wa.heap.size B2 q vc ts wa T j s8 wr))
        case atStart => exact ⟨0, 0, Nat.zero_le _, rfl, rfl, rfl, Lib.hid ⟨v1, by rw [(due_none HPOS.out).2]; exact W3.out, by rw [(due_none HPOS.out).1]; exact World.ownsRow_nil _ _ _ _, ⟨by omega, by omega⟩, C3.out, AP.out, B3.out⟩⟩
        case round =>
          obtain ⟨wi, hwi⟩ : ∃ x, x = wr := ⟨wr, rfl⟩
          subst hwi
          obtain ⟨j, T, hj, rfl, rfl, rfl, hir⟩ := hrel
          obtain ⟨vw, hw, hout, hT, hcp, hap, hbw⟩ := hir.out
          have WI := Lib.hid hw
          have HOUT := Lib.hid hout
          have HT := Lib.hid hT
          have CP := Lib.hid hcp
          have HAP := Lib.hid hap
          have BW := Lib.hid hbw
          have BWw : Hid (Below w.heap.size w wi) := Lib.hid (BA.out.trans (hbw.mono BA.out.size))
          obtain ⟨ds, hds⟩ : ∃ ds, ds = (dueT T ts).map (·.1) := ⟨_, rfl⟩
          have HDS := Lib.hid hds
          rw [← hds] at hout HOUT
          obtain ⟨axo, cxo, rfl⟩ := row_slice hout
          clear hir hw hout hcp hap hbw hds
          by_cases hjlt : j < m.length
          · obtain ⟨gm, om, hgm, hcm⟩ := HM.out.each j hjlt
            subst hgm
            have HCM := Lib.hid hcm
            have p0 := hcm wi BWw.out
            have hj0 : (0 : Int) ≤ (j : Int) := by omega
            have hjl : (j : Int) < (m.length : Int) := by omega
            clear hcm
            generalize m[j] = P at *
            by_cases hP : 1 ≤ P ∧ P ≤ 1000
            · obtain ⟨hP1, hP2⟩ := hP
              have HLR : Hid ((restT T ts).length ≤ 200) := Lib.hid (by have h1 := due_rest_length T ts; have := HTL.out; omega)
              have hTb : T ≤ 200000 := by have := HT.out.2; have := HLM.out; omega
              have hT0 : 0 ≤ T := HT.out.1
              have hlat : laterT T P = T + P := later_in (by omega)
              have hdt := due_two (t := T) (u := T + P) (by omega) ts
              have HDT := Lib.hid hdt
              clear hdt
              clear hT
              generalize hR : restT T ts = R at *
              go_wp2_with fail
              refine (now_any wa.heap.size wa.heap.size T vw R wi WI.out).mono ?_
              rintro e w4 ⟨rfl, rfl⟩
              go_wp2_with fail
              refine (next_any wa.heap.size wa.heap.size T vw R wi WI.out).mono ?_
              rintro e w4 ⟨rfl, rfl⟩
              go_wp2_with fail
              refine (tick_ok wa.heap.size wa.heap.size T vw R P wi WI.out (by have := HLR.out; omega) (by omega) (by omega) hT0 (by omega)).mono ?_
              rintro e w5 ⟨xa, rfl, hxa, ht⟩
              rw [hlat] at hxa ht
              rw [HDT.out.2] at ht
              obtain ⟨es, hes⟩ : ∃ es, es = (dueT (T + P) R).map (·.1) := ⟨_, rfl⟩
              have HES := Lib.hid hes
              rw [← hes] at hxa
              obtain ⟨v5, st⟩ := ht.step WI.out
              have S5 := Lib.hid st
              obtain ⟨hc5, ha5⟩ := Turned.other CP.out st.off st.fresh HAP.out
              have C5 := Lib.hid (And.intro hc5 ha5)
              have A5 := Lib.hid hxa
              have B5 : Hid (Below wa.heap.size wa w5) := Lib.hid (BW.out.trans st.below)
              have B5w : Hid (Below w.heap.size w w5) := Lib.hid (BA.out.trans (B5.out.mono BA.out.size))
              have O5 : Hid (w5.ownsRow wa.heap.size 3 1 (.slice axo ds.length cxo) ds.length (icells ds)) := Lib.hid (ownsRow_off HOUT.out st.off ((own_ints HOUT.out).apart WI.out))
              obtain ⟨v6, w6, happ, ho6, hk6⟩ := app_ints w5 wa.heap.size _ xa _ _ O5.out hxa B5.out.size (by
                have h1 := due_rest_length T ts
                have h2 := due_rest_length (T + P) R
                have h3 : R.length ≤ ts.length := by rw [← h1, hR]; omega
                have := HTL.out
                rw [HDS.out, hes]
                simp only [List.length_map]
                omega)
              obtain ⟨fs, hfs⟩ : ∃ fs, fs = ds ++ es := ⟨_, rfl⟩
              rw [← hfs] at ho6
              have HFS : Hid (fs = (dueT (T + P) ts).map (·.1)) := Lib.hid (by rw [hfs, HDS.out, hes, ← List.map_append, HDT.out.1])
              have hin5 : ∀ k, Wrote wa.heap.size v5 k → ¬ ((Value.slice axo ds.length cxo).ownBlock = some k) := fun k h1 h2 => (own_ints O5.out).apart st.wh k h2 h1
              have hin6 : ∀ k, Wrote q vc k → ¬ ((Value.slice axo ds.length cxo).ownBlock = some k) := fun k h1 h2 => (own_ints O5.out).apart hc5 k h2 h1
              have B6 : Hid (Below wa.heap.size wa w6) := Lib.hid (B5.out.trans (hk6.below B5.out.size (fun k hk => (O5.out.lt k hk).1)))
              have HN : Hid (PartsInv wa.heap.size B2 q vc ts wa (T + P) (j + 1) v6 w6) := Lib.hid ⟨v5, st.wh.off hk6 hin5, by rw [← HFS.out]; exact ho6, ⟨by omega, by have := HT.out.2; omega⟩, hc5.off hk6 hin6, ha5, B6.out⟩
              have B6w : Hid (Below w.heap.size w w6) := Lib.hid (BA.out.trans (B6.out.mono BA.out.size))
              have q5 := HCM.out w5 B5w.out
              have q6 := HCM.out w6 B6w.out
              obtain ⟨axa, cxa, rfl⟩ := hxa.slice
              obtain ⟨av6, cv6, rfl⟩ := row_slice ho6
              clear ht st hc5 ha5 hxa ho6 hk6 hin5 hin6 p0
              have hwTP : IntKind.i64.wrap (T + P) = T + P := by rw [IntKind.wrap_i64]; omega
              have hRD : R = [] ∨ (∃ x r, R = x :: r ∧ x.2 ≤ T + P) ∨ (∃ x r, R = x :: r ∧ ¬ x.2 ≤ T + P) := by
                cases R with
                | nil => exact .inl rfl
                | cons x r =>
                  by_cases hx : x.2 ≤ T + P
                  · exact .inr (.inl ⟨x, r, rfl, hx⟩)
                  · exact .inr (.inr ⟨x, r, rfl, hx⟩)
              have HDL : Hid ((R = [] → es.length = 0) ∧ (∀ x r, R = x :: r → x.2 ≤ T + P → 0 < es.length) ∧ (∀ x r, R = x :: r → ¬ x.2 ≤ T + P → es.length = 0)) := Lib.hid ⟨fun h => by rw [hes, h]; rfl, fun x r h hx => by rw [hes, h]; unfold dueT; rw [List.takeWhile_cons_of_pos (by simpa using hx)]; simp, fun x r h hx => by rw [hes, h]; unfold dueT; rw [List.takeWhile_cons_of_neg (by simpa using hx)]; rfl⟩
              clear hes hfs
              generalize es.length = nd at *
              rcases hRD with hRR | ⟨x, r, hRR, hx⟩ | ⟨x, r, hRR, hx⟩
              · have hnd := HDL.out.1 hRR
                rw [hRR]
                subst hnd
                go_wp2_with (at_builtin; refine Lib.wpList_append_run _ rfl _ _ _ _ rfl _ _ rfl rfl _ _ happ ?_)
                go_roundg (m.length - (j + 1))
                case measure => omega
                case rel => exact ⟨j + 1, T + P, by omega, rfl, rfl, (by first | exact next_int j (by have := HLM.out; omega) | exact congrArg _ (by omega)), HN⟩
              · have hnd := HDL.out.2.1 x r hRR hx
                rw [hRR]
                have hnd' : (0 : Int) < (nd : Int) := by omega
                simp only [List.head?_cons, Option.map_some, Option.getD_some, Option.isSome_some]
                go_wp2_with (at_builtin; refine Lib.wpList_append_run _ rfl _ _ _ _ rfl _ _ rfl rfl _ _ happ ?_)
                go_roundg (m.length - (j + 1))
                case measure => omega
                case rel => exact ⟨j + 1, T + P, by omega, rfl, rfl, (by first | exact next_int j (by have := HLM.out; omega) | exact congrArg _ (by omega)), HN⟩
              · have hnd := HDL.out.2.2 x r hRR hx
                rw [hRR]
                subst hnd
                have hx' : T + P < x.2 := by omega
                simp only [List.head?_cons, Option.map_some, Option.getD_some, Option.isSome_some]
                go_wp2_with (at_builtin; refine Lib.wpList_append_run _ rfl _ _ _ _ rfl _ _ rfl rfl _ _ happ ?_)
                go_roundg (m.length - (j + 1))
                case measure => omega
                case rel => exact ⟨j + 1, T + P, by omega, rfl, rfl, (by first | exact next_int j (by have := HLM.out; omega) | exact congrArg _ (by omega)), HN⟩
            · have hP' : P < 1 ∨ (1 ≤ P ∧ 1000 < P) := by omega
              rcases hP' with hP' | ⟨hP1, hP2⟩
              · go_wp2_with fail
                refine (first_any _ (HK.out _ BWw.out)).mono ?_
                rintro e w8 ⟨rfl, hb8⟩
                have B8 : Hid (Below w.heap.size w w8) := Lib.hid (BWw.out.trans (hb8.mono BWw.out.size))
                clear hb8
                go_wp2
                go_ret
                exact ⟨rfl, B8.out⟩
              · go_wp2_with fail
                refine (first_any _ (HK.out _ BWw.out)).mono ?_
                rintro e w8 ⟨rfl, hb8⟩
                have B8 : Hid (Below w.heap.size w w8) := Lib.hid (BWw.out.trans (hb8.mono BWw.out.size))
                clear hb8
                go_wp2
                go_ret
                exact ⟨rfl, B8.out⟩
          · have hjl : (m.length : Int) ≤ (j : Int) := by omega
            have hT0 : 0 ≤ T := hT.1
            have hTb : T ≤ 200000 := by have := hT.2; have := HLM.out; omega
            have hlat : laterT 0 T = T := by rw [later_in (by omega), Int.zero_add]
            have HLR : Hid ((restT T ts).length ≤ 200) := Lib.hid (by have h1 := due_rest_length T ts; have := HTL.out; omega)
            clear hT
            go_wp2_with fail
            refine (tick_ok B2 q 0 vc ts T wi CP.out (by have := HTL.out; omega) (by omega) (by omega) (by omega) (by omega)).mono ?_
            rintro e w5 ⟨xb, rfl, hxb, ht⟩
            rw [hlat] at hxb ht
            rw [← HDS.out] at hxb
            obtain ⟨vc5, st⟩ := ht.step CP.out
            obtain ⟨hw5, _⟩ := Turned.other WI.out st.off st.fresh (fun k h1 h2 => HAP.out k h2 h1)
            have W5 := Lib.hid hw5
            have C5 := Lib.hid st.wh
            have X5 := Lib.hid hxb
            have O5 := Lib.hid (st.ints _ _ (own_ints HOUT.out))
            have B5 : Hid (Below wa.heap.size wa w5) := Lib.hid (BW.out.trans (st.below.mono SB.out))
            have B5w : Hid (Below w.heap.size w w5) := Lib.hid (BA.out.trans (B5.out.mono BA.out.size))
            obtain ⟨axb, cxb, rfl⟩ := hxb.slice
            have HLD : Hid (ds.length ≤ 1000) := Lib.hid (by rw [HDS.out, List.length_map]; have h1 := due_rest_length T ts; have := HTL.out; omega)
            clear ht st hw5 hxb
            generalize restT T ts = R at *
            go_wp2_with fail
            refine (first_any _ (HK.out _ B5w.out)).mono ?_
            rintro e w6 ⟨rfl, hb6⟩
            have D6 := Lib.hid hb6
            have B6 : Hid (Below w.heap.size w w6) := Lib.hid (B5w.out.trans (hb6.mono B5w.out.size))
            clear hb6
            go_wp2_with fail
            refine (ints_any _ _ ds ds _ (O5.out.at.on D6.out) (X5.out.at.on D6.out) (by have := HLD.out; omega)).mono ?_
            rintro e w7 ⟨rfl, hb7⟩
            have D7 : Hid (Below w5.heap.size w5 w7) := Lib.hid (D6.out.trans (hb7.mono D6.out.size))
            have B7 : Hid (Below w.heap.size w w7) := Lib.hid (B6.out.trans (hb7.mono B6.out.size))
            clear hb7
            rw [show (ds == ds) = true by simp]
            go_wp2_with fail
            refine (list_any wa.heap.size wa.heap.size T vw R w7 (W5.out.on D7.out) (by have := HLR.out; omega)).mono ?_
            rintro e w8 ⟨xl, rfl, hxl, hb8⟩
            have L8 := Lib.hid hxl
            have D8 : Hid (Below w5.heap.size w5 w8) := Lib.hid (D7.out.trans (hb8.mono D7.out.size))
            have B8 : Hid (Below w.heap.size w w8) := Lib.hid (B7.out.trans (hb8.mono B7.out.size))
            clear hxl hb8
            go_wp2_with fail
            refine (list_any B2 q T vc5 R w8 (C5.out.on D8.out) (by have := HLR.out; omega)).mono ?_
            rintro e w9 ⟨xm, rfl, hxm, hb9⟩
            have M9 := Lib.hid hxm
            have L9 := Lib.hid (L8.out.on hb9)
            have D9 : Hid (Below w5.heap.size w5 w9) := Lib.hid (D8.out.trans (hb9.mono D8.out.size))
            have B9 : Hid (Below w.heap.size w w9) := Lib.hid (B8.out.trans (hb9.mono B8.out.size))
            clear hxm hb9
            have HLS : Hid ((sortI (R.map (·.1))).length ≤ 1000) := Lib.hid (by rw [sortI_length, List.length_map]; have := HLR.out; omega)
            generalize sortI (R.map (·.1)) = ss at *
            obtain ⟨axl, cxl, rfl⟩ := L9.out.slice
            obtain ⟨axm, cxm, rfl⟩ := M9.out.slice
            go_wp2_with fail
            refine (ints_any _ _ ss ss _ L9.out.at M9.out.at (by have := HLS.out; omega)).mono ?_
            rintro e w10 ⟨rfl, hb10⟩
            have D10 : Hid (Below w5.heap.size w5 w10) := Lib.hid (D9.out.trans (hb10.mono D9.out.size))
            have B10 : Hid (Below w.heap.size w w10) := Lib.hid (B9.out.trans (hb10.mono B9.out.size))
            clear hb10
            rw [show (ss == ss) = true by simp]
            go_wp2_with fail
            refine (now_any wa.heap.size wa.heap.size T vw R w10 (W5.out.on D10.out)).mono ?_
            rintro e w11 ⟨rfl, rfl⟩
            go_wp2_with fail
            refine (now_any B2 q T vc5 R w10 (C5.out.on D10.out)).mono ?_
            rintro e w11 ⟨rfl, rfl⟩
            have hTT : (T == T) = true := by simp
            go_wp2
            go_ret
            exact ⟨rfl, B10.out⟩
  · have hlen' : (200 : Int) < (l.length : Int) ∨ ((l.length : Int) ≤ 200 ∧ (200 : Int) < (m.length : Int)) := by omega
    clear hlen
    go_enter Tryd.func4, Tryd.ntmps4
    go_wp2_with fail
    refine (first_any _ HG.out).mono ?_
    rintro e wa ⟨rfl, hba⟩
    have BA := Lib.hid hba
    clear hba
    go_wp2_with fail
    refine (new_any _).mono ?_
    rintro e w0 ⟨rfl, hw0⟩
    have B0 : Hid (Below w.heap.size w w0) := Lib.hid (by rw [hw0]; exact BA.out.alloc BA.out.size _)
    clear hw0
    go_wp2_with fail
    all_goals first
      | (exfalso; omega)
      | (refine (first_any _ (HK.out _ B0.out)).mono ?_
         rintro e w1 ⟨rfl, hb1⟩
         have B1 : Hid (Below w.heap.size w w1) := Lib.hid (B0.out.trans (hb1.mono B0.out.size))
         clear hb1
         go_wp2
         go_ret
         exact ⟨rfl, B1.out⟩)
end Go.Proofs.YtfefkkojdcipcaaDoor
