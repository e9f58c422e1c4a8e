/- yardlaw4.WheelSets answers true for every list of calls, and older memory stands. -/
import Derived.Test.YtfefkkojdcipcaaDoorAny
import Derived.StillTailTactics
namespace Go.Proofs.YtfefkkojdcipcaaDoor
open Go.RowKit Go.Extern.Stop Go.Stop Go.Extern

/-- The least time among the first ids. -/
def Least (ts : List (Int × Int)) (ids : List Int) (k : Nat) (s : Bool) (x : Int) : Prop :=
  (k = 0 ∧ s = false ∧ x = 0) ∨ (0 < k ∧ s = true ∧ (∃ id ∈ ids.take k, atT ts id = some x) ∧ ∀ id ∈ ids.take k, ∀ a, atT ts id = some a → x ≤ a)
theorem least_new {ts : List (Int × Int)} {ids : List Int} {k : Nat} {s : Bool} {x a : Int} (hk : k < ids.length) (ha : atT ts ids[k] = some a) (h : Least ts ids k s x) (hc : s = false ∨ a < x) : Least ts ids (k + 1) true a := by
  right
  refine ⟨by omega, rfl, ?_, ?_⟩
  · rw [← List.take_append_getElem hk]
    exact ⟨ids[k], List.mem_append_right _ (List.mem_singleton.2 rfl), ha⟩
  · rw [← List.take_append_getElem hk]
    intro id hid b hb
    rcases List.mem_append.1 hid with hid | hid
    · rcases h with ⟨h1, _, _⟩ | ⟨_, h2, _, h3⟩
      · subst h1
        simp at hid
      · rcases hc with hc | hc
        · rw [hc] at h2; cases h2
        · have := h3 id hid b hb
          omega
    · rw [List.mem_singleton.1 hid, ha] at hb
      simp only [Option.some.injEq] at hb
      omega
theorem least_old {ts : List (Int × Int)} {ids : List Int} {k : Nat} {x a : Int} (hk : k < ids.length) (ha : atT ts ids[k] = some a) (h : Least ts ids k true x) (hc : x ≤ a) : Least ts ids (k + 1) true x := by
  rcases h with ⟨_, h, _⟩ | ⟨_, _, ⟨id, h1, h2⟩, h3⟩
  · cases h
  · right
    rw [← List.take_append_getElem hk]
    refine ⟨by omega, rfl, ⟨id, List.mem_append_left _ h1, h2⟩, fun id' hid b hb => ?_⟩
    rcases List.mem_append.1 hid with hid | hid
    · exact h3 id' hid b hb
    · rw [List.mem_singleton.1 hid, ha] at hb
      simp only [Option.some.injEq] at hb
      omega
theorem least_end {ts : List (Int × Int)} {ids : List Int} {s : Bool} {x : Int} (hg : Good ts) (hl : ids.length = ts.length) (hm : ∀ t ∈ ts, t.1 ∈ ids) (h : Least ts ids ids.length s x) : s = ts.head?.isSome ∧ x = (ts.head?.map (·.2)).getD 0 := by
  cases ts with
  | nil =>
    rcases h with ⟨_, h1, h2⟩ | ⟨h1, _⟩
    · exact ⟨h1, h2⟩
    · rw [List.length_nil] at hl; omega
  | cons t r =>
    rcases h with ⟨h1, _, _⟩ | ⟨_, h2, ⟨id, h3, h4⟩, h5⟩
    · rw [List.length_cons] at hl; omega
    · rw [List.take_length] at h3 h5
      refine ⟨h2, ?_⟩
      have h6 := h5 t.1 (hm t (by simp)) t.2 (atT_mem hg.nodup t (by simp))
      have h7 := hg.head _ (atT_some h4)
      show x = t.2
      simp only at h7
      omega

set_option maxRecDepth 100000 in
set_option maxHeartbeats 8000000 in
theorem sets_any (v : Value) (l : List OpV) (w : World) (hv : OpsAt w v l) (hg : ErrT w) : Calls Tryd.prog 6 #[v] w (Fine w) := by
  have HK : Hid (∀ W : World, Below w.heap.size w W → ErrT W) := Lib.hid fun W hb => hg.up hb
  have HV := Lib.hid hv
  have HG := Lib.hid hg
  obtain ⟨ao, cap, rfl, hx⟩ := hv
  clear hg hx
  by_cases hlen : l.length ≤ 200
  · have hlen' : (l.length : Int) ≤ 200 := by omega
    have HL := Lib.hid hlen
    clear hlen
    go_enter Tryd.func6, Tryd.ntmps6
    go_wp2_with fail
    refine (first_any _ HG.out).mono ?_
    rintro e wa ⟨rfl, hba⟩
    have BA := Lib.hid hba
    clear hba
    go_wp2_with fail
    refine (new_any _).mono ?_
    rintro e w0 ⟨rfl, hw0⟩
    have H0 : Hid (WhAt w0 wa.heap.size wa.heap.size 0 (.slice none 0 0) []) := Lib.hid (by rw [hw0]; exact whAt_new wa)
    have B0 : Hid (Below wa.heap.size wa w0) := Lib.hid (by rw [hw0]; exact below_new wa _)
    clear hw0
    go_wp2
    go_loopg [4] l.length (fun k s4 wr => ∃ i : Nat, i ≤ l.length ∧ k = l.length - i ∧ s4 = .int .i64 i ∧ Hid (SetsInv wa.heap.size wa i wr))
    case atStart => exact ⟨0, Nat.zero_le _, rfl, rfl, Lib.hid ⟨_, [], H0.out, good_nil, Nat.zero_le _, B0.out⟩⟩
    case round =>
      obtain ⟨wo, hwo⟩ : ∃ x, x = wr := ⟨wr, rfl⟩
      subst hwo
      obtain ⟨i, hi, rfl, rfl, hinv⟩ := hrel
      by_cases hlt : i < l.length
      · obtain ⟨v1, ts, hw, hgood, htl, hbr⟩ := hinv.out
        have HW := Lib.hid hw
        have HGD := Lib.hid (And.intro hgood htl)
        have HBR : Hid (Below w.heap.size w wo) := Lib.hid (BA.out.trans (hbr.mono BA.out.size))
        have HBA := Lib.hid hbr
        obtain ⟨b, off, hb, hc⟩ := HV.out.each i hlt
        subst hb
        generalize l[i].kind = K at *
        generalize l[i].n = N at *
        generalize l[i].a = A at *
        have HC := Lib.hid hc
        obtain ⟨c0, c1, c2⟩ := hc wo HBR.out
        clear hc hw hgood htl hbr hinv
        have hi0 : (0 : Int) ≤ (i : Int) := by omega
        have hil : (i : Int) < (l.length : Int) := by omega
        have HTT : Hid (Good (setA 0 ts N A) ∧ (setA 0 ts N A).length ≤ i + 1) := Lib.hid ⟨good_setA N A HGD.out.1 (by omega) (by omega), Nat.le_trans (setA_length 0 ts N A) (by have := HGD.out.2; omega)⟩
        have HAT : Hid (inR N A → atT (setA 0 ts N A) N = some A) := Lib.hid fun hr => by
          rw [setA, if_pos hr, atT_setT HGD.out.1 (by omega) (by omega) hr, later_in (by have := hr.2.2; omega), Int.zero_add]
        go_wp2
        go_still_tail 11, (by kernel_rfl)
        go_wp2_with fail
        have HS := Lib.hid (set_any wa.heap.size wa.heap.size 0 v1 ts N A wo.drew (HW.out.on (Below.refl _ _).drew) (by have := HGD.out.2; have := HL.out; omega) (by omega) (by omega))
        generalize setA 0 ts N A = T at *
        refine HS.out.mono ?_
        rintro e w2 ⟨x, v2, rfl, hans, st⟩
        have ST := Lib.hid st
        have B2 : Hid (Below wa.heap.size wa w2) := Lib.hid (HBA.out.drew.trans st.below)
        have B2w : Hid (Below w.heap.size w w2) := Lib.hid (BA.out.trans (B2.out.mono BA.out.size))
        obtain ⟨d0, d1, d2⟩ := HC.out w2 B2w.out
        clear st c0 c1 c2 d0
        have HLT : Hid (T.length ≤ 100000) := Lib.hid (by have := HTT.out.2; have := HL.out; omega)
        have hcase : inR N A ∨ N < 0 ∨ (0 ≤ N ∧ 1000 < N) ∨ ((0 ≤ N ∧ N ≤ 1000) ∧ A < 0) ∨ ((0 ≤ N ∧ N ≤ 1000) ∧ 0 ≤ A ∧ 1099511627776 < A) := by unfold inR; omega
        rcases hcase with hr | hr
        · obtain rfl : x = .nilIface := by
            rcases hans with ⟨_, h⟩ | ⟨h, _⟩
            · exact h
            · exact absurd hr h
          have ha := HAT.out hr
          obtain ⟨⟨h0, h1⟩, h2, h3⟩ := hr
          clear hans
          go_wp2_with fail
          refine (at_any wa.heap.size wa.heap.size 0 _ _ N w2 ST.out.wh HLT.out).mono ?_
          rintro e w3 ⟨he, hb3⟩
          rw [ha] at he
          subst he
          have W3 := Lib.hid (ST.out.wh.on hb3)
          have B3 : Hid (Below wa.heap.size wa w3) := Lib.hid (B2.out.trans (hb3.mono B2.out.size))
          have B3w : Hid (Below w.heap.size w w3) := Lib.hid (BA.out.trans (B3.out.mono BA.out.size))
          obtain ⟨e0, e1, e2⟩ := HC.out w3 B3w.out
          clear hb3 d1 d2 e0 ha
          simp only [Option.getD_some, Option.isSome_some]
          have hmn : min A 1099511627776 = A := by omega
          have hAA : (A != A) = false := by simp
          go_wp2_with fail
          go_quiet ((first | (go_at_call 21; exact quiet_of (now_any _ _ _ _ _ _ (W3.out.on (below_drew _ _))))))
          have B4 : Hid (Below wa.heap.size wa (w3.drewN nq)) := Lib.hid (below_drewN' B3.out _)
          have W4 := Lib.hid (W3.out.on (below_drew w3 nq))
          clear e1 e2
          generalize w3.drewN nq = w4 at *
          go_wp2_with fail
          refine (list_any wa.heap.size wa.heap.size 0 v2 T w4 W4.out HLT.out).mono ?_
          rintro e w5 ⟨xl, rfl, hxl, hb5⟩
          have W5 := Lib.hid (W4.out.on hb5)
          have B5 : Hid (Below wa.heap.size wa w5) := Lib.hid (B4.out.trans (hb5.mono B4.out.size))
          have XL := Lib.hid hxl
          have HIL : Hid ((sortI (T.map (·.1))).length = T.length) := Lib.hid (by rw [sortI_length, List.length_map])
          have HIM : Hid (∀ t ∈ T, t.1 ∈ sortI (T.map (·.1))) := Lib.hid fun t ht => mem_sortI.2 ⟨t, ht, rfl⟩
          have HIA : Hid (∀ z ∈ sortI (T.map (·.1)), ∃ a, atT T z = some a) := Lib.hid fun z hz => by
            obtain ⟨t, ht, rfl⟩ := mem_sortI.1 hz
            exact ⟨t.2, atT_mem HTT.out.1.nodup t ht⟩
          have HIS := Lib.hid (sortI_lt HTT.out.1)
          clear hxl hb5
          generalize sortI (T.map (·.1)) = ids at *
          have HIB : Hid (ids.length ≤ 1000) := Lib.hid (by rw [HIL.out]; have := HTT.out.2; have := HL.out; omega)
          obtain ⟨al, cl, rfl⟩ := XL.out.slice
          go_wp2
          go_loopg [9, 10, 11] ids.length (fun k s9 s10 s11 wr => ∃ (j : Nat) (s : Bool) (x : Int), j ≤ ids.length ∧ k = ids.length - j ∧ s9 = .int .i64 x ∧ s10 = .bool s ∧ s11 = .int .i64 j ∧ Hid (Below w5.heap.size w5 wr ∧ Least T ids j s x))
          case atStart => exact ⟨0, false, 0, Nat.zero_le _, rfl, rfl, rfl, rfl, Lib.hid ⟨Below.refl _ _, .inl ⟨rfl, rfl, rfl⟩⟩⟩
          case round =>
            obtain ⟨wi, hwi⟩ : ∃ x, x = wr := ⟨wr, rfl⟩
            subst hwi
            obtain ⟨j, s, y, hj, rfl, rfl, rfl, rfl, hir⟩ := hrel
            by_cases hjlt : j < ids.length
            · obtain ⟨gl, ol, hgl, hcl⟩ := XL.out.at.each j hjlt
              subst hgl
              obtain ⟨a, ha⟩ := HIA.out ids[j] (List.getElem_mem hjlt)
              have HNEW := Lib.hid fun hc => least_new hjlt ha hir.out.2 hc
              have HOLD : Hid (s = true → y ≤ a → Least T ids (j + 1) true y) := Lib.hid fun hs hc => by subst hs; exact least_old hjlt ha hir.out.2 hc
              have p0 := hcl wi hir.out.1
              have hj0 : (0 : Int) ≤ (j : Int) := by omega
              have hjl : (j : Int) < (ids.length : Int) := by omega
              have HCL := Lib.hid hcl
              clear hcl
              by_cases hjz : j = 0
              · subst hjz
                have hs : s = false := by
                  rcases hir.out.2 with ⟨_, h, _⟩ | ⟨h, _⟩
                  · exact h
                  · omega
                subst hs
                generalize ids[0] = z at *
                simp only [Nat.add_zero] at p0
                go_wp2_with fail
                refine (at_any wa.heap.size wa.heap.size 0 v2 T z wi (W5.out.on hir.out.1) HLT.out).mono ?_
                rintro e w6 ⟨he, hb6⟩
                rw [ha] at he
                subst he
                have B6 : Hid (Below w5.heap.size w5 w6) := Lib.hid (hir.out.1.trans (hb6.mono hir.out.1.size))
                have q0 := HCL.out w6 B6.out
                simp only [Nat.add_zero] at q0
                clear hb6 p0
                simp only [Option.getD_some, Option.isSome_some]
                have hz0 : decide ((0 : Int) < ((0 : Nat) : Int)) = false := by simp
                go_wp2_with fail
                go_quiet (fail)
                go_wp2
                go_roundg (ids.length - (0 + 1))
                case measure => omega
                case rel => exact ⟨0 + 1, true, a, by omega, rfl, rfl, rfl, (by first | rfl | exact next_int 0 (by omega) | exact congrArg _ (by omega)), Lib.hid ⟨below_drewN' B6.out _, HNEW.out (by simp)⟩⟩
              · have hs : s = true := by
                  rcases hir.out.2 with ⟨h, _, _⟩ | ⟨_, h, _⟩
                  · exact absurd h hjz
                  · exact h
                subst hs
                obtain ⟨k, hkj⟩ : ∃ k, j = k + 1 := ⟨j - 1, by omega⟩
                have HKJ := Lib.hid hkj
                obtain ⟨gk, ok', hgk, hck⟩ := XL.out.at.each k (by omega)
                simp only [Option.some.injEq, Addr.mk.injEq] at hgk
                obtain ⟨rfl, rfl, _⟩ := hgk
                have hlt1 : ids[k] < ids[j] := List.pairwise_iff_getElem.1 HIS.out k j (by omega) hjlt (by omega)
                have HCK := Lib.hid hck
                clear hck
                generalize ids[j] = z at *
                generalize ids[k] = z0 at *
                have hkk : (0 : Int) < (j : Int) := by omega
                have hkn : 0 < j := by omega
                have hsb : (j : Int) - 1 = (k : Int) := by omega
                have hk0 : (0 : Int) ≤ (k : Int) := by omega
                have hkl : (k : Int) < (ids.length : Int) := by omega
                have hk1 : IntKind.i64.wrap ((j : Int) - 1) = (k : Int) := by rw [IntKind.wrap_i64]; have := HIB.out; omega
                have hk2 : wrap64 ((j : Int) - 1) = (k : Int) := by unfold wrap64; have := HIB.out; omega
                have hk3 : IntKind.i64.wrap (k : Int) = (k : Int) := by rw [IntKind.wrap_i64]; have := HIB.out; omega
                have hk4 : wrap64 (k : Int) = (k : Int) := by unfold wrap64; have := HIB.out; omega
                clear hkj
                go_wp2_with fail
                refine (at_any wa.heap.size wa.heap.size 0 v2 T z wi (W5.out.on hir.out.1) HLT.out).mono ?_
                rintro e w6 ⟨he, hb6⟩
                rw [ha] at he
                subst he
                have B6 : Hid (Below w5.heap.size w5 w6) := Lib.hid (hir.out.1.trans (hb6.mono hir.out.1.size))
                have q0 := HCL.out w6 B6.out
                have q1 := HCK.out w6 B6.out
                clear hb6 p0
                simp only [Option.getD_some, Option.isSome_some]
                by_cases hay : a < y
                · go_wp2_with fail
                  go_quiet (fail)
                  clear hsb hk1 hk2 hk3 hk4 q0 q1 hkk hk0 hkl
                  go_wp2
                  go_roundg (ids.length - (j + 1))
                  case measure => omega
                  case rel => exact ⟨j + 1, true, a, by omega, rfl, rfl, rfl, (by first | exact next_int j (by have := HIB.out; omega) | exact congrArg _ (by omega)), Lib.hid ⟨below_drewN' B6.out _, HNEW.out (by simp [hay])⟩⟩
                · have hay' : y ≤ a := by omega
                  go_wp2_with fail
                  go_quiet (fail)
                  clear hsb hk1 hk2 hk3 hk4 q0 q1 hkk hk0 hkl
                  go_wp2
                  go_roundg (ids.length - (j + 1))
                  case measure => omega
                  case rel => exact ⟨j + 1, true, y, by omega, rfl, rfl, rfl, (by first | exact next_int j (by have := HIB.out; omega) | exact congrArg _ (by omega)), Lib.hid ⟨below_drewN' B6.out _, HOLD.out (by simp) hay'⟩⟩
            · have hjl : (ids.length : Int) ≤ (j : Int) := by omega
              have hje : j = ids.length := by omega
              have hend := least_end HTT.out.1 HIL.out HIM.out (hje ▸ hir.out.2)
              obtain ⟨hs, hy⟩ := hend
              have W7 := Lib.hid (W5.out.on hir.out.1)
              have HN : Hid (SetsInv wa.heap.size wa (i + 1) wi) := Lib.hid ⟨v2, T, W7.out, HTT.out.1, HTT.out.2, B5.out.trans (hir.out.1.mono B5.out.size)⟩
              clear hje
              go_wp2_with fail
              refine (next_any wa.heap.size wa.heap.size 0 v2 T wi W7.out).mono ?_
              rintro e w8 ⟨rfl, rfl⟩
              rw [← hs, ← hy]
              clear hs hy hir
              have hss : (s != s) = false := by simp
              have hyy : (y != y) = false := by simp
              go_wp2
              go_roundg (l.length - (i + 1))
              case measure => omega
              case rel => exact ⟨i + 1, by omega, rfl, (by first | exact next_int i (by have := HL.out; omega) | exact congrArg _ (by omega)), HN⟩
        · obtain ⟨te, ye, rfl⟩ : ∃ te ye, x = .iface te ye := by
            rcases hans with ⟨h, _⟩ | ⟨_, h, _⟩
            · unfold inR at h; omega
            · exact h
          clear hans
          go_wp2_with fail
          refine (at_any wa.heap.size wa.heap.size 0 _ _ N w2 ST.out.wh HLT.out).mono ?_
          rintro e w3 ⟨he, hb3⟩
          subst he
          have W3 := Lib.hid (ST.out.wh.on hb3)
          have B3 : Hid (Below wa.heap.size wa w3) := Lib.hid (B2.out.trans (hb3.mono B2.out.size))
          have B3w : Hid (Below w.heap.size w w3) := Lib.hid (BA.out.trans (B3.out.mono BA.out.size))
          obtain ⟨e0, e1, e2⟩ := HC.out w3 B3w.out
          clear hb3 d1 d2 e0
          generalize (atT T N).getD 0 = y
          generalize (atT T N).isSome = ok
          rcases hr with h0 | ⟨h0, h1⟩ | ⟨⟨h0, h1⟩, h2⟩ | ⟨⟨h0, h1⟩, h2, h3⟩
          · have d0 : decide (0 ≤ N) = false := by simp; omega
            go_wp2_with fail
            go_quiet (fail)
            have B4 : Hid (Below wa.heap.size wa (w3.drewN nq)) := Lib.hid (below_drewN' B3.out _)
            have W4 := Lib.hid (W3.out.on (below_drew w3 nq))
            clear e1 e2
            generalize w3.drewN nq = w4 at *
            go_wp2_with fail
            refine (list_any wa.heap.size wa.heap.size 0 v2 T w4 W4.out HLT.out).mono ?_
            rintro e w5 ⟨xl, rfl, hxl, hb5⟩
            have W5 := Lib.hid (W4.out.on hb5)
            have B5 : Hid (Below wa.heap.size wa w5) := Lib.hid (B4.out.trans (hb5.mono B4.out.size))
            have XL := Lib.hid hxl
            have HIL : Hid ((sortI (T.map (·.1))).length = T.length) := Lib.hid (by rw [sortI_length, List.length_map])
            have HIM : Hid (∀ t ∈ T, t.1 ∈ sortI (T.map (·.1))) := Lib.hid fun t ht => mem_sortI.2 ⟨t, ht, rfl⟩
            have HIA : Hid (∀ z ∈ sortI (T.map (·.1)), ∃ a, atT T z = some a) := Lib.hid fun z hz => by
              obtain ⟨t, ht, rfl⟩ := mem_sortI.1 hz
              exact ⟨t.2, atT_mem HTT.out.1.nodup t ht⟩
            have HIS := Lib.hid (sortI_lt HTT.out.1)
            clear hxl hb5
            generalize sortI (T.map (·.1)) = ids at *
            have HIB : Hid (ids.length ≤ 1000) := Lib.hid (by rw [HIL.out]; have := HTT.out.2; have := HL.out; omega)
            obtain ⟨al, cl, rfl⟩ := XL.out.slice
            go_wp2
            go_loopg [9, 10, 11] ids.length (fun k s9 s10 s11 wr => ∃ (j : Nat) (s : Bool) (x : Int), j ≤ ids.length ∧ k = ids.length - j ∧ s9 = .int .i64 x ∧ s10 = .bool s ∧ s11 = .int .i64 j ∧ Hid (Below w5.heap.size w5 wr ∧ Least T ids j s x))
            case atStart => exact ⟨0, false, 0, Nat.zero_le _, rfl, rfl, rfl, rfl, Lib.hid ⟨Below.refl _ _, .inl ⟨rfl, rfl, rfl⟩⟩⟩
            case round =>
              obtain ⟨wi, hwi⟩ : ∃ x, x = wr := ⟨wr, rfl⟩
              subst hwi
              obtain ⟨j, s, y, hj, rfl, rfl, rfl, rfl, hir⟩ := hrel
              by_cases hjlt : j < ids.length
              · obtain ⟨gl, ol, hgl, hcl⟩ := XL.out.at.each j hjlt
                subst hgl
                obtain ⟨a, ha⟩ := HIA.out ids[j] (List.getElem_mem hjlt)
                have HNEW := Lib.hid fun hc => least_new hjlt ha hir.out.2 hc
                have HOLD : Hid (s = true → y ≤ a → Least T ids (j + 1) true y) := Lib.hid fun hs hc => by subst hs; exact least_old hjlt ha hir.out.2 hc
                have p0 := hcl wi hir.out.1
                have hj0 : (0 : Int) ≤ (j : Int) := by omega
                have hjl : (j : Int) < (ids.length : Int) := by omega
                have HCL := Lib.hid hcl
                clear hcl
                by_cases hjz : j = 0
                · subst hjz
                  have hs : s = false := by
                    rcases hir.out.2 with ⟨_, h, _⟩ | ⟨h, _⟩
                    · exact h
                    · omega
                  subst hs
                  generalize ids[0] = z at *
                  simp only [Nat.add_zero] at p0
                  go_wp2_with fail
                  refine (at_any wa.heap.size wa.heap.size 0 v2 T z wi (W5.out.on hir.out.1) HLT.out).mono ?_
                  rintro e w6 ⟨he, hb6⟩
                  rw [ha] at he
                  subst he
                  have B6 : Hid (Below w5.heap.size w5 w6) := Lib.hid (hir.out.1.trans (hb6.mono hir.out.1.size))
                  have q0 := HCL.out w6 B6.out
                  simp only [Nat.add_zero] at q0
                  clear hb6 p0
                  simp only [Option.getD_some, Option.isSome_some]
                  have hz0 : decide ((0 : Int) < ((0 : Nat) : Int)) = false := by simp
                  go_wp2_with fail
                  go_quiet (fail)
                  go_wp2
                  go_roundg (ids.length - (0 + 1))
                  case measure => omega
                  case rel => exact ⟨0 + 1, true, a, by omega, rfl, rfl, rfl, (by first | rfl | exact next_int 0 (by omega) | exact congrArg _ (by omega)), Lib.hid ⟨below_drewN' B6.out _, HNEW.out (by simp)⟩⟩
                · have hs : s = true := by
                    rcases hir.out.2 with ⟨h, _, _⟩ | ⟨_, h, _⟩
                    · exact absurd h hjz
                    · exact h
                  subst hs
                  obtain ⟨k, hkj⟩ : ∃ k, j = k + 1 := ⟨j - 1, by omega⟩
                  have HKJ := Lib.hid hkj
                  obtain ⟨gk, ok', hgk, hck⟩ := XL.out.at.each k (by omega)
                  simp only [Option.some.injEq, Addr.mk.injEq] at hgk
                  obtain ⟨rfl, rfl, _⟩ := hgk
                  have hlt1 : ids[k] < ids[j] := List.pairwise_iff_getElem.1 HIS.out k j (by omega) hjlt (by omega)
                  have HCK := Lib.hid hck
                  clear hck
                  generalize ids[j] = z at *
                  generalize ids[k] = z0 at *
                  have hkk : (0 : Int) < (j : Int) := by omega
                  have hkn : 0 < j := by omega
                  have hsb : (j : Int) - 1 = (k : Int) := by omega
                  have hk0 : (0 : Int) ≤ (k : Int) := by omega
                  have hkl : (k : Int) < (ids.length : Int) := by omega
                  have hk1 : IntKind.i64.wrap ((j : Int) - 1) = (k : Int) := by rw [IntKind.wrap_i64]; have := HIB.out; omega
                  have hk2 : wrap64 ((j : Int) - 1) = (k : Int) := by unfold wrap64; have := HIB.out; omega
                  have hk3 : IntKind.i64.wrap (k : Int) = (k : Int) := by rw [IntKind.wrap_i64]; have := HIB.out; omega
                  have hk4 : wrap64 (k : Int) = (k : Int) := by unfold wrap64; have := HIB.out; omega
                  clear hkj
                  go_wp2_with fail
                  refine (at_any wa.heap.size wa.heap.size 0 v2 T z wi (W5.out.on hir.out.1) HLT.out).mono ?_
                  rintro e w6 ⟨he, hb6⟩
                  rw [ha] at he
                  subst he
                  have B6 : Hid (Below w5.heap.size w5 w6) := Lib.hid (hir.out.1.trans (hb6.mono hir.out.1.size))
                  have q0 := HCL.out w6 B6.out
                  have q1 := HCK.out w6 B6.out
                  clear hb6 p0
                  simp only [Option.getD_some, Option.isSome_some]
                  by_cases hay : a < y
                  · go_wp2_with fail
                    go_quiet (fail)
                    clear hsb hk1 hk2 hk3 hk4 q0 q1 hkk hk0 hkl
                    go_wp2
                    go_roundg (ids.length - (j + 1))
                    case measure => omega
                    case rel => exact ⟨j + 1, true, a, by omega, rfl, rfl, rfl, (by first | exact next_int j (by have := HIB.out; omega) | exact congrArg _ (by omega)), Lib.hid ⟨below_drewN' B6.out _, HNEW.out (by simp [hay])⟩⟩
                  · have hay' : y ≤ a := by omega
                    go_wp2_with fail
                    go_quiet (fail)
                    clear hsb hk1 hk2 hk3 hk4 q0 q1 hkk hk0 hkl
                    go_wp2
                    go_roundg (ids.length - (j + 1))
                    case measure => omega
                    case rel => exact ⟨j + 1, true, y, by omega, rfl, rfl, rfl, (by first | exact next_int j (by have := HIB.out; omega) | exact congrArg _ (by omega)), Lib.hid ⟨below_drewN' B6.out _, HOLD.out (by simp) hay'⟩⟩
              · have hjl : (ids.length : Int) ≤ (j : Int) := by omega
                have hje : j = ids.length := by omega
                have hend := least_end HTT.out.1 HIL.out HIM.out (hje ▸ hir.out.2)
                obtain ⟨hs, hy⟩ := hend
                have W7 := Lib.hid (W5.out.on hir.out.1)
                have HN : Hid (SetsInv wa.heap.size wa (i + 1) wi) := Lib.hid ⟨v2, T, W7.out, HTT.out.1, HTT.out.2, B5.out.trans (hir.out.1.mono B5.out.size)⟩
                clear hje
                go_wp2_with fail
                refine (next_any wa.heap.size wa.heap.size 0 v2 T wi W7.out).mono ?_
                rintro e w8 ⟨rfl, rfl⟩
                rw [← hs, ← hy]
                clear hs hy hir
                have hss : (s != s) = false := by simp
                have hyy : (y != y) = false := by simp
                go_wp2
                go_roundg (l.length - (i + 1))
                case measure => omega
                case rel => exact ⟨i + 1, by omega, rfl, (by first | exact next_int i (by have := HL.out; omega) | exact congrArg _ (by omega)), HN⟩
          · have d0 : decide (N ≤ 1000) = false := by simp; omega
            go_wp2_with fail
            go_quiet (fail)
            have B4 : Hid (Below wa.heap.size wa (w3.drewN nq)) := Lib.hid (below_drewN' B3.out _)
            have W4 := Lib.hid (W3.out.on (below_drew w3 nq))
            clear e1 e2
            generalize w3.drewN nq = w4 at *
            go_wp2_with fail
            refine (list_any wa.heap.size wa.heap.size 0 v2 T w4 W4.out HLT.out).mono ?_
            rintro e w5 ⟨xl, rfl, hxl, hb5⟩
            have W5 := Lib.hid (W4.out.on hb5)
            have B5 : Hid (Below wa.heap.size wa w5) := Lib.hid (B4.out.trans (hb5.mono B4.out.size))
            have XL := Lib.hid hxl
            have HIL : Hid ((sortI (T.map (·.1))).length = T.length) := Lib.hid (by rw [sortI_length, List.length_map])
            have HIM : Hid (∀ t ∈ T, t.1 ∈ sortI (T.map (·.1))) := Lib.hid fun t ht => mem_sortI.2 ⟨t, ht, rfl⟩
            have HIA : Hid (∀ z ∈ sortI (T.map (·.1)), ∃ a, atT T z = some a) := Lib.hid fun z hz => by
              obtain ⟨t, ht, rfl⟩ := mem_sortI.1 hz
              exact ⟨t.2, atT_mem HTT.out.1.nodup t ht⟩
            have HIS := Lib.hid (sortI_lt HTT.out.1)
            clear hxl hb5
            generalize sortI (T.map (·.1)) = ids at *
            have HIB : Hid (ids.length ≤ 1000) := Lib.hid (by rw [HIL.out]; have := HTT.out.2; have := HL.out; omega)
            obtain ⟨al, cl, rfl⟩ := XL.out.slice
            go_wp2
            go_loopg [9, 10, 11] ids.length (fun k s9 s10 s11 wr => ∃ (j : Nat) (s : Bool) (x : Int), j ≤ ids.length ∧ k = ids.length - j ∧ s9 = .int .i64 x ∧ s10 = .bool s ∧ s11 = .int .i64 j ∧ Hid (Below w5.heap.size w5 wr ∧ Least T ids j s x))
            case atStart => exact ⟨0, false, 0, Nat.zero_le _, rfl, rfl, rfl, rfl, Lib.hid ⟨Below.refl _ _, .inl ⟨rfl, rfl, rfl⟩⟩⟩
            case round =>
              obtain ⟨wi, hwi⟩ : ∃ x, x = wr := ⟨wr, rfl⟩
              subst hwi
              obtain ⟨j, s, y, hj, rfl, rfl, rfl, rfl, hir⟩ := hrel
              by_cases hjlt : j < ids.length
              · obtain ⟨gl, ol, hgl, hcl⟩ := XL.out.at.each j hjlt
                subst hgl
                obtain ⟨a, ha⟩ := HIA.out ids[j] (List.getElem_mem hjlt)
                have HNEW := Lib.hid fun hc => least_new hjlt ha hir.out.2 hc
                have HOLD : Hid (s = true → y ≤ a → Least T ids (j + 1) true y) := Lib.hid fun hs hc => by subst hs; exact least_old hjlt ha hir.out.2 hc
                have p0 := hcl wi hir.out.1
                have hj0 : (0 : Int) ≤ (j : Int) := by omega
                have hjl : (j : Int) < (ids.length : Int) := by omega
                have HCL := Lib.hid hcl
                clear hcl
                by_cases hjz : j = 0
                · subst hjz
                  have hs : s = false := by
                    rcases hir.out.2 with ⟨_, h, _⟩ | ⟨h, _⟩
                    · exact h
                    · omega
                  subst hs
                  generalize ids[0] = z at *
                  simp only [Nat.add_zero] at p0
                  go_wp2_with fail
                  refine (at_any wa.heap.size wa.heap.size 0 v2 T z wi (W5.out.on hir.out.1) HLT.out).mono ?_
                  rintro e w6 ⟨he, hb6⟩
                  rw [ha] at he
                  subst he
                  have B6 : Hid (Below w5.heap.size w5 w6) := Lib.hid (hir.out.1.trans (hb6.mono hir.out.1.size))
                  have q0 := HCL.out w6 B6.out
                  simp only [Nat.add_zero] at q0
                  clear hb6 p0
                  simp only [Option.getD_some, Option.isSome_some]
                  have hz0 : decide ((0 : Int) < ((0 : Nat) : Int)) = false := by simp
                  go_wp2_with fail
                  go_quiet (fail)
                  go_wp2
                  go_roundg (ids.length - (0 + 1))
                  case measure => omega
                  case rel => exact ⟨0 + 1, true, a, by omega, rfl, rfl, rfl, (by first | rfl | exact next_int 0 (by omega) | exact congrArg _ (by omega)), Lib.hid ⟨below_drewN' B6.out _, HNEW.out (by simp)⟩⟩
                · have hs : s = true := by
                    rcases hir.out.2 with ⟨h, _, _⟩ | ⟨_, h, _⟩
                    · exact absurd h hjz
                    · exact h
                  subst hs
                  obtain ⟨k, hkj⟩ : ∃ k, j = k + 1 := ⟨j - 1, by omega⟩
                  have HKJ := Lib.hid hkj
                  obtain ⟨gk, ok', hgk, hck⟩ := XL.out.at.each k (by omega)
                  simp only [Option.some.injEq, Addr.mk.injEq] at hgk
                  obtain ⟨rfl, rfl, _⟩ := hgk
                  have hlt1 : ids[k] < ids[j] := List.pairwise_iff_getElem.1 HIS.out k j (by omega) hjlt (by omega)
                  have HCK := Lib.hid hck
                  clear hck
                  generalize ids[j] = z at *
                  generalize ids[k] = z0 at *
                  have hkk : (0 : Int) < (j : Int) := by omega
                  have hkn : 0 < j := by omega
                  have hsb : (j : Int) - 1 = (k : Int) := by omega
                  have hk0 : (0 : Int) ≤ (k : Int) := by omega
                  have hkl : (k : Int) < (ids.length : Int) := by omega
                  have hk1 : IntKind.i64.wrap ((j : Int) - 1) = (k : Int) := by rw [IntKind.wrap_i64]; have := HIB.out; omega
                  have hk2 : wrap64 ((j : Int) - 1) = (k : Int) := by unfold wrap64; have := HIB.out; omega
                  have hk3 : IntKind.i64.wrap (k : Int) = (k : Int) := by rw [IntKind.wrap_i64]; have := HIB.out; omega
                  have hk4 : wrap64 (k : Int) = (k : Int) := by unfold wrap64; have := HIB.out; omega
                  clear hkj
                  go_wp2_with fail
                  refine (at_any wa.heap.size wa.heap.size 0 v2 T z wi (W5.out.on hir.out.1) HLT.out).mono ?_
                  rintro e w6 ⟨he, hb6⟩
                  rw [ha] at he
                  subst he
                  have B6 : Hid (Below w5.heap.size w5 w6) := Lib.hid (hir.out.1.trans (hb6.mono hir.out.1.size))
                  have q0 := HCL.out w6 B6.out
                  have q1 := HCK.out w6 B6.out
                  clear hb6 p0
                  simp only [Option.getD_some, Option.isSome_some]
                  by_cases hay : a < y
                  · go_wp2_with fail
                    go_quiet (fail)
                    clear hsb hk1 hk2 hk3 hk4 q0 q1 hkk hk0 hkl
                    go_wp2
                    go_roundg (ids.length - (j + 1))
                    case measure => omega
                    case rel => exact ⟨j + 1, true, a, by omega, rfl, rfl, rfl, (by first | exact next_int j (by have := HIB.out; omega) | exact congrArg _ (by omega)), Lib.hid ⟨below_drewN' B6.out _, HNEW.out (by simp [hay])⟩⟩
                  · have hay' : y ≤ a := by omega
                    go_wp2_with fail
                    go_quiet (fail)
                    clear hsb hk1 hk2 hk3 hk4 q0 q1 hkk hk0 hkl
                    go_wp2
                    go_roundg (ids.length - (j + 1))
                    case measure => omega
                    case rel => exact ⟨j + 1, true, y, by omega, rfl, rfl, rfl, (by first | exact next_int j (by have := HIB.out; omega) | exact congrArg _ (by omega)), Lib.hid ⟨below_drewN' B6.out _, HOLD.out (by simp) hay'⟩⟩
              · have hjl : (ids.length : Int) ≤ (j : Int) := by omega
                have hje : j = ids.length := by omega
                have hend := least_end HTT.out.1 HIL.out HIM.out (hje ▸ hir.out.2)
                obtain ⟨hs, hy⟩ := hend
                have W7 := Lib.hid (W5.out.on hir.out.1)
                have HN : Hid (SetsInv wa.heap.size wa (i + 1) wi) := Lib.hid ⟨v2, T, W7.out, HTT.out.1, HTT.out.2, B5.out.trans (hir.out.1.mono B5.out.size)⟩
                clear hje
                go_wp2_with fail
                refine (next_any wa.heap.size wa.heap.size 0 v2 T wi W7.out).mono ?_
                rintro e w8 ⟨rfl, rfl⟩
                rw [← hs, ← hy]
                clear hs hy hir
                have hss : (s != s) = false := by simp
                have hyy : (y != y) = false := by simp
                go_wp2
                go_roundg (l.length - (i + 1))
                case measure => omega
                case rel => exact ⟨i + 1, by omega, rfl, (by first | exact next_int i (by have := HL.out; omega) | exact congrArg _ (by omega)), HN⟩
          · have d0 : decide (0 ≤ A) = false := by simp; omega
            go_wp2_with fail
            go_quiet (fail)
            have B4 : Hid (Below wa.heap.size wa (w3.drewN nq)) := Lib.hid (below_drewN' B3.out _)
            have W4 := Lib.hid (W3.out.on (below_drew w3 nq))
            clear e1 e2
            generalize w3.drewN nq = w4 at *
            go_wp2_with fail
            refine (list_any wa.heap.size wa.heap.size 0 v2 T w4 W4.out HLT.out).mono ?_
            rintro e w5 ⟨xl, rfl, hxl, hb5⟩
            have W5 := Lib.hid (W4.out.on hb5)
            have B5 : Hid (Below wa.heap.size wa w5) := Lib.hid (B4.out.trans (hb5.mono B4.out.size))
            have XL := Lib.hid hxl
            have HIL : Hid ((sortI (T.map (·.1))).length = T.length) := Lib.hid (by rw [sortI_length, List.length_map])
            have HIM : Hid (∀ t ∈ T, t.1 ∈ sortI (T.map (·.1))) := Lib.hid fun t ht => mem_sortI.2 ⟨t, ht, rfl⟩
            have HIA : Hid (∀ z ∈ sortI (T.map (·.1)), ∃ a, atT T z = some a) := Lib.hid fun z hz => by
              obtain ⟨t, ht, rfl⟩ := mem_sortI.1 hz
              exact ⟨t.2, atT_mem HTT.out.1.nodup t ht⟩
            have HIS := Lib.hid (sortI_lt HTT.out.1)
            clear hxl hb5
            generalize sortI (T.map (·.1)) = ids at *
            have HIB : Hid (ids.length ≤ 1000) := Lib.hid (by rw [HIL.out]; have := HTT.out.2; have := HL.out; omega)
            obtain ⟨al, cl, rfl⟩ := XL.out.slice
            go_wp2
            go_loopg [9, 10, 11] ids.length (fun k s9 s10 s11 wr => ∃ (j : Nat) (s : Bool) (x : Int), j ≤ ids.length ∧ k = ids.length - j ∧ s9 = .int .i64 x ∧ s10 = .bool s ∧ s11 = .int .i64 j ∧ Hid (Below w5.heap.size w5 wr ∧ Least T ids j s x))
            case atStart => exact ⟨0, false, 0, Nat.zero_le _, rfl, rfl, rfl, rfl, Lib.hid ⟨Below.refl _ _, .inl ⟨rfl, rfl, rfl⟩⟩⟩
            case round =>
              obtain ⟨wi, hwi⟩ : ∃ x, x = wr := ⟨wr, rfl⟩
              subst hwi
              obtain ⟨j, s, y, hj, rfl, rfl, rfl, rfl, hir⟩ := hrel
              by_cases hjlt : j < ids.length
              · obtain ⟨gl, ol, hgl, hcl⟩ := XL.out.at.each j hjlt
                subst hgl
                obtain ⟨a, ha⟩ := HIA.out ids[j] (List.getElem_mem hjlt)
                have HNEW := Lib.hid fun hc => least_new hjlt ha hir.out.2 hc
                have HOLD : Hid (s = true → y ≤ a → Least T ids (j + 1) true y) := Lib.hid fun hs hc => by subst hs; exact least_old hjlt ha hir.out.2 hc
                have p0 := hcl wi hir.out.1
                have hj0 : (0 : Int) ≤ (j : Int) := by omega
                have hjl : (j : Int) < (ids.length : Int) := by omega
                have HCL := Lib.hid hcl
                clear hcl
                by_cases hjz : j = 0
                · subst hjz
                  have hs : s = false := by
                    rcases hir.out.2 with ⟨_, h, _⟩ | ⟨h, _⟩
                    · exact h
                    · omega
                  subst hs
                  generalize ids[0] = z at *
                  simp only [Nat.add_zero] at p0
                  go_wp2_with fail
                  refine (at_any wa.heap.size wa.heap.size 0 v2 T z wi (W5.out.on hir.out.1) HLT.out).mono ?_
                  rintro e w6 ⟨he, hb6⟩
                  rw [ha] at he
                  subst he
                  have B6 : Hid (Below w5.heap.size w5 w6) := Lib.hid (hir.out.1.trans (hb6.mono hir.out.1.size))
                  have q0 := HCL.out w6 B6.out
                  simp only [Nat.add_zero] at q0
                  clear hb6 p0
                  simp only [Option.getD_some, Option.isSome_some]
                  have hz0 : decide ((0 : Int) < ((0 : Nat) : Int)) = false := by simp
                  go_wp2_with fail
                  go_quiet (fail)
                  go_wp2
                  go_roundg (ids.length - (0 + 1))
                  case measure => omega
                  case rel => exact ⟨0 + 1, true, a, by omega, rfl, rfl, rfl, (by first | rfl | exact next_int 0 (by omega) | exact congrArg _ (by omega)), Lib.hid ⟨below_drewN' B6.out _, HNEW.out (by simp)⟩⟩
                · have hs : s = true := by
                    rcases hir.out.2 with ⟨h, _, _⟩ | ⟨_, h, _⟩
                    · exact absurd h hjz
                    · exact h
                  subst hs
                  obtain ⟨k, hkj⟩ : ∃ k, j = k + 1 := ⟨j - 1, by omega⟩
                  have HKJ := Lib.hid hkj
                  obtain ⟨gk, ok', hgk, hck⟩ := XL.out.at.each k (by omega)
                  simp only [Option.some.injEq, Addr.mk.injEq] at hgk
                  obtain ⟨rfl, rfl, _⟩ := hgk
                  have hlt1 : ids[k] < ids[j] := List.pairwise_iff_getElem.1 HIS.out k j (by omega) hjlt (by omega)
                  have HCK := Lib.hid hck
                  clear hck
                  generalize ids[j] = z at *
                  generalize ids[k] = z0 at *
                  have hkk : (0 : Int) < (j : Int) := by omega
                  have hkn : 0 < j := by omega
                  have hsb : (j : Int) - 1 = (k : Int) := by omega
                  have hk0 : (0 : Int) ≤ (k : Int) := by omega
                  have hkl : (k : Int) < (ids.length : Int) := by omega
                  have hk1 : IntKind.i64.wrap ((j : Int) - 1) = (k : Int) := by rw [IntKind.wrap_i64]; have := HIB.out; omega
                  have hk2 : wrap64 ((j : Int) - 1) = (k : Int) := by unfold wrap64; have := HIB.out; omega
                  have hk3 : IntKind.i64.wrap (k : Int) = (k : Int) := by rw [IntKind.wrap_i64]; have := HIB.out; omega
                  have hk4 : wrap64 (k : Int) = (k : Int) := by unfold wrap64; have := HIB.out; omega
                  clear hkj
                  go_wp2_with fail
                  refine (at_any wa.heap.size wa.heap.size 0 v2 T z wi (W5.out.on hir.out.1) HLT.out).mono ?_
                  rintro e w6 ⟨he, hb6⟩
                  rw [ha] at he
                  subst he
                  have B6 : Hid (Below w5.heap.size w5 w6) := Lib.hid (hir.out.1.trans (hb6.mono hir.out.1.size))
                  have q0 := HCL.out w6 B6.out
                  have q1 := HCK.out w6 B6.out
                  clear hb6 p0
                  simp only [Option.getD_some, Option.isSome_some]
                  by_cases hay : a < y
                  · go_wp2_with fail
                    go_quiet (fail)
                    clear hsb hk1 hk2 hk3 hk4 q0 q1 hkk hk0 hkl
                    go_wp2
                    go_roundg (ids.length - (j + 1))
                    case measure => omega
                    case rel => exact ⟨j + 1, true, a, by omega, rfl, rfl, rfl, (by first | exact next_int j (by have := HIB.out; omega) | exact congrArg _ (by omega)), Lib.hid ⟨below_drewN' B6.out _, HNEW.out (by simp [hay])⟩⟩
                  · have hay' : y ≤ a := by omega
                    go_wp2_with fail
                    go_quiet (fail)
                    clear hsb hk1 hk2 hk3 hk4 q0 q1 hkk hk0 hkl
                    go_wp2
                    go_roundg (ids.length - (j + 1))
                    case measure => omega
                    case rel => exact ⟨j + 1, true, y, by omega, rfl, rfl, rfl, (by first | exact next_int j (by have := HIB.out; omega) | exact congrArg _ (by omega)), Lib.hid ⟨below_drewN' B6.out _, HOLD.out (by simp) hay'⟩⟩
              · have hjl : (ids.length : Int) ≤ (j : Int) := by omega
                have hje : j = ids.length := by omega
                have hend := least_end HTT.out.1 HIL.out HIM.out (hje ▸ hir.out.2)
                obtain ⟨hs, hy⟩ := hend
                have W7 := Lib.hid (W5.out.on hir.out.1)
                have HN : Hid (SetsInv wa.heap.size wa (i + 1) wi) := Lib.hid ⟨v2, T, W7.out, HTT.out.1, HTT.out.2, B5.out.trans (hir.out.1.mono B5.out.size)⟩
                clear hje
                go_wp2_with fail
                refine (next_any wa.heap.size wa.heap.size 0 v2 T wi W7.out).mono ?_
                rintro e w8 ⟨rfl, rfl⟩
                rw [← hs, ← hy]
                clear hs hy hir
                have hss : (s != s) = false := by simp
                have hyy : (y != y) = false := by simp
                go_wp2
                go_roundg (l.length - (i + 1))
                case measure => omega
                case rel => exact ⟨i + 1, by omega, rfl, (by first | exact next_int i (by have := HL.out; omega) | exact congrArg _ (by omega)), HN⟩
          · have d0 : decide (A ≤ 1099511627776) = false := by simp; omega
            go_wp2_with fail
            go_quiet (fail)
            have B4 : Hid (Below wa.heap.size wa (w3.drewN nq)) := Lib.hid (below_drewN' B3.out _)
            have W4 := Lib.hid (W3.out.on (below_drew w3 nq))
            clear e1 e2
            generalize w3.drewN nq = w4 at *
            go_wp2_with fail
            refine (list_any wa.heap.size wa.heap.size 0 v2 T w4 W4.out HLT.out).mono ?_
            rintro e w5 ⟨xl, rfl, hxl, hb5⟩
            have W5 := Lib.hid (W4.out.on hb5)
            have B5 : Hid (Below wa.heap.size wa w5) := Lib.hid (B4.out.trans (hb5.mono B4.out.size))
            have XL := Lib.hid hxl
            have HIL : Hid ((sortI (T.map (·.1))).length = T.length) := Lib.hid (by rw [sortI_length, List.length_map])
            have HIM : Hid (∀ t ∈ T, t.1 ∈ sortI (T.map (·.1))) := Lib.hid fun t ht => mem_sortI.2 ⟨t, ht, rfl⟩
            have HIA : Hid (∀ z ∈ sortI (T.map (·.1)), ∃ a, atT T z = some a) := Lib.hid fun z hz => by
              obtain ⟨t, ht, rfl⟩ := mem_sortI.1 hz
              exact ⟨t.2, atT_mem HTT.out.1.nodup t ht⟩
            have HIS := Lib.hid (sortI_lt HTT.out.1)
            clear hxl hb5
            generalize sortI (T.map (·.1)) = ids at *
            have HIB : Hid (ids.length ≤ 1000) := Lib.hid (by rw [HIL.out]; have := HTT.out.2; have := HL.out; omega)
            obtain ⟨al, cl, rfl⟩ := XL.out.slice
            go_wp2
            go_loopg [9, 10, 11] ids.length (fun k s9 s10 s11 wr => ∃ (j : Nat) (s : Bool) (x : Int), j ≤ ids.length ∧ k = ids.length - j ∧ s9 = .int .i64 x ∧ s10 = .bool s ∧ s11 = .int .i64 j ∧ Hid (Below w5.heap.size w5 wr ∧ Least T ids j s x))
            case atStart => exact ⟨0, false, 0, Nat.zero_le _, rfl, rfl, rfl, rfl, Lib.hid ⟨Below.refl _ _, .inl ⟨rfl, rfl, rfl⟩⟩⟩
            case round =>
              obtain ⟨wi, hwi⟩ : ∃ x, x = wr := ⟨wr, rfl⟩
              subst hwi
              obtain ⟨j, s, y, hj, rfl, rfl, rfl, rfl, hir⟩ := hrel
              by_cases hjlt : j < ids.length
              · obtain ⟨gl, ol, hgl, hcl⟩ := XL.out.at.each j hjlt
                subst hgl
                obtain ⟨a, ha⟩ := HIA.out ids[j] (List.getElem_mem hjlt)
                have HNEW := Lib.hid fun hc => least_new hjlt ha hir.out.2 hc
                have HOLD : Hid (s = true → y ≤ a → Least T ids (j + 1) true y) := Lib.hid fun hs hc => by subst hs; exact least_old hjlt ha hir.out.2 hc
                have p0 := hcl wi hir.out.1
                have hj0 : (0 : Int) ≤ (j : Int) := by omega
                have hjl : (j : Int) < (ids.length : Int) := by omega
                have HCL := Lib.hid hcl
                clear hcl
                by_cases hjz : j = 0
                · subst hjz
                  have hs : s = false := by
                    rcases hir.out.2 with ⟨_, h, _⟩ | ⟨h, _⟩
                    · exact h
                    · omega
                  subst hs
                  generalize ids[0] = z at *
                  simp only [Nat.add_zero] at p0
                  go_wp2_with fail
                  refine (at_any wa.heap.size wa.heap.size 0 v2 T z wi (W5.out.on hir.out.1) HLT.out).mono ?_
                  rintro e w6 ⟨he, hb6⟩
                  rw [ha] at he
                  subst he
                  have B6 : Hid (Below w5.heap.size w5 w6) := Lib.hid (hir.out.1.trans (hb6.mono hir.out.1.size))
                  have q0 := HCL.out w6 B6.out
                  simp only [Nat.add_zero] at q0
                  clear hb6 p0
                  simp only [Option.getD_some, Option.isSome_some]
                  have hz0 : decide ((0 : Int) < ((0 : Nat) : Int)) = false := by simp
                  go_wp2_with fail
                  go_quiet (fail)
                  go_wp2
                  go_roundg (ids.length - (0 + 1))
                  case measure => omega
                  case rel => exact ⟨0 + 1, true, a, by omega, rfl, rfl, rfl, (by first | rfl | exact next_int 0 (by omega) | exact congrArg _ (by omega)), Lib.hid ⟨below_drewN' B6.out _, HNEW.out (by simp)⟩⟩
                · have hs : s = true := by
                    rcases hir.out.2 with ⟨h, _, _⟩ | ⟨_, h, _⟩
                    · exact absurd h hjz
                    · exact h
                  subst hs
                  obtain ⟨k, hkj⟩ : ∃ k, j = k + 1 := ⟨j - 1, by omega⟩
                  have HKJ := Lib.hid hkj
                  obtain ⟨gk, ok', hgk, hck⟩ := XL.out.at.each k (by omega)
                  simp only [Option.some.injEq, Addr.mk.injEq] at hgk
                  obtain ⟨rfl, rfl, _⟩ := hgk
                  have hlt1 : ids[k] < ids[j] := List.pairwise_iff_getElem.1 HIS.out k j (by omega) hjlt (by omega)
                  have HCK := Lib.hid hck
                  clear hck
                  generalize ids[j] = z at *
                  generalize ids[k] = z0 at *
                  have hkk : (0 : Int) < (j : Int) := by omega
                  have hkn : 0 < j := by omega
                  have hsb : (j : Int) - 1 = (k : Int) := by omega
                  have hk0 : (0 : Int) ≤ (k : Int) := by omega
                  have hkl : (k : Int) < (ids.length : Int) := by omega
                  have hk1 : IntKind.i64.wrap ((j : Int) - 1) = (k : Int) := by rw [IntKind.wrap_i64]; have := HIB.out; omega
                  have hk2 : wrap64 ((j : Int) - 1) = (k : Int) := by unfold wrap64; have := HIB.out; omega
                  have hk3 : IntKind.i64.wrap (k : Int) = (k : Int) := by rw [IntKind.wrap_i64]; have := HIB.out; omega
                  have hk4 : wrap64 (k : Int) = (k : Int) := by unfold wrap64; have := HIB.out; omega
                  clear hkj
                  go_wp2_with fail
                  refine (at_any wa.heap.size wa.heap.size 0 v2 T z wi (W5.out.on hir.out.1) HLT.out).mono ?_
                  rintro e w6 ⟨he, hb6⟩
                  rw [ha] at he
                  subst he
                  have B6 : Hid (Below w5.heap.size w5 w6) := Lib.hid (hir.out.1.trans (hb6.mono hir.out.1.size))
                  have q0 := HCL.out w6 B6.out
                  have q1 := HCK.out w6 B6.out
                  clear hb6 p0
                  simp only [Option.getD_some, Option.isSome_some]
                  by_cases hay : a < y
                  · go_wp2_with fail
                    go_quiet (fail)
                    clear hsb hk1 hk2 hk3 hk4 q0 q1 hkk hk0 hkl
                    go_wp2
                    go_roundg (ids.length - (j + 1))
                    case measure => omega
                    case rel => exact ⟨j + 1, true, a, by omega, rfl, rfl, rfl, (by first | exact next_int j (by have := HIB.out; omega) | exact congrArg _ (by omega)), Lib.hid ⟨below_drewN' B6.out _, HNEW.out (by simp [hay])⟩⟩
                  · have hay' : y ≤ a := by omega
                    go_wp2_with fail
                    go_quiet (fail)
                    clear hsb hk1 hk2 hk3 hk4 q0 q1 hkk hk0 hkl
                    go_wp2
                    go_roundg (ids.length - (j + 1))
                    case measure => omega
                    case rel => exact ⟨j + 1, true, y, by omega, rfl, rfl, rfl, (by first | exact next_int j (by have := HIB.out; omega) | exact congrArg _ (by omega)), Lib.hid ⟨below_drewN' B6.out _, HOLD.out (by simp) hay'⟩⟩
              · have hjl : (ids.length : Int) ≤ (j : Int) := by omega
                have hje : j = ids.length := by omega
                have hend := least_end HTT.out.1 HIL.out HIM.out (hje ▸ hir.out.2)
                obtain ⟨hs, hy⟩ := hend
                have W7 := Lib.hid (W5.out.on hir.out.1)
                have HN : Hid (SetsInv wa.heap.size wa (i + 1) wi) := Lib.hid ⟨v2, T, W7.out, HTT.out.1, HTT.out.2, B5.out.trans (hir.out.1.mono B5.out.size)⟩
                clear hje
                go_wp2_with fail
                refine (next_any wa.heap.size wa.heap.size 0 v2 T wi W7.out).mono ?_
                rintro e w8 ⟨rfl, rfl⟩
                rw [← hs, ← hy]
                clear hs hy hir
                have hss : (s != s) = false := by simp
                have hyy : (y != y) = false := by simp
                go_wp2
                go_roundg (l.length - (i + 1))
                case measure => omega
                case rel => exact ⟨i + 1, by omega, rfl, (by first | exact next_int i (by have := HL.out; omega) | exact congrArg _ (by omega)), HN⟩
      · have hil : (l.length : Int) ≤ (i : Int) := by omega
        obtain ⟨v1, ts, hw, hgood, htl, hbr⟩ := hinv.out
        have HBR : Hid (Below w.heap.size w wo) := Lib.hid (BA.out.trans (hbr.mono BA.out.size))
        clear hw hgood htl hbr hinv
        go_wp2_with fail
        refine (first_any _ (HK.out _ HBR.out)).mono ?_
        rintro e w8 ⟨rfl, hb8⟩
        have B8 : Hid (Below w.heap.size w w8) := Lib.hid (HBR.out.trans (hb8.mono HBR.out.size))
        clear hb8
        go_wp2
        go_ret
        exact ⟨rfl, B8.out⟩
  · have hlen' : (200 : Int) < (l.length : Int) := by omega
    go_enter Tryd.func6, Tryd.ntmps6
    go_wp2_with fail
    refine (first_any _ HG.out).mono ?_
    rintro e wa ⟨rfl, hba⟩
    have BA := Lib.hid hba
    clear hba
    go_wp2_with fail
    refine (new_any _).mono ?_
    rintro e w0 ⟨rfl, hw0⟩
    have B0 : Hid (Below w.heap.size w w0) := Lib.hid (by rw [hw0]; exact BA.out.alloc BA.out.size _)
    clear hw0
    go_wp2_with fail
    all_goals first
      | (exfalso; omega)
      | (refine (first_any _ (HK.out _ B0.out)).mono ?_
         rintro e w1 ⟨rfl, hb1⟩
         have B1 : Hid (Below w.heap.size w w1) := Lib.hid (B0.out.trans (hb1.mono B0.out.size))
         clear hb1
         go_wp2
         go_ret
         exact ⟨rfl, B1.out⟩)
end Go.Proofs.YtfefkkojdcipcaaDoor
