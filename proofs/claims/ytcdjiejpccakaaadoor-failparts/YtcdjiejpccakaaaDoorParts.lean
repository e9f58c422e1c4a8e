/- yardlaw1.FailParts answers true for every code and every two lists of steps; memory that was there stands. -/
import Derived.Test.YtcdjiejpccakaaaDoorThrough
namespace Go.Proofs.YtcdjiejpccakaaaDoor
open Go.RowKit Go.Extern.Stop Go.Stop Go.Extern

def PartsInv (w : World) (c : Int) (l m : List (ByteArray × Int)) (ev : Value) (i : Nat) (mv : Value) (wr : World) : Prop :=
  Chain wr (.iface 22 (.int .i64 c)) ((m.take i).reverse ++ l.reverse) mv ∧ Chain wr (.iface 22 (.int .i64 c)) l.reverse ev ∧ Below w.heap.size w wr

theorem parts_left (l m : List (ByteArray × Int)) (i : Nat) (h : i < m.length) (h' : i < (m.reverse ++ l.reverse).length) (h'' : m.length - 1 - i < m.length) : (m.reverse ++ l.reverse)[i] = m[m.length - 1 - i] := by
  rw [List.getElem_append_left (by rw [List.length_reverse]; exact h), List.getElem_reverse]
theorem parts_right (l m : List (ByteArray × Int)) (i : Nat) (h : m.length ≤ i) (h' : i < (m.reverse ++ l.reverse).length) (h'' : i - m.length < l.reverse.length) : (m.reverse ++ l.reverse)[i] = l.reverse[i - m.length] := by
  rw [List.getElem_append_right (by rw [List.length_reverse]; exact h)]
  congr 1
  rw [List.length_reverse]

set_option maxRecDepth 100000 in
set_option maxHeartbeats 4000000 in
/-- .. where the bounds of the law hold. -/
theorem parts_in (c : Int) (v u : Value) (l m : List (ByteArray × Int)) (w : World) (hs : StepsAt w v l) (ht : StepsAt w u m) (hg : Ready w) (hc0 : c ≠ 0) (hfl : fewB l = true) (hfm : fewB m = true) :
    Calls Tryd.prog 8 #[.int .i64 c, v, u] w fun e w' => e = .returned (.bool true) ∧ Below w.heap.size w w' := by
  have HS := Lib.hid hs
  have HT := Lib.hid ht
  have HG := Lib.hid hg
  have HFL := Lib.hid hfl
  have HFM := Lib.hid hfm
  have hll := (short_of_few hs hfl).2.1
  have hml := (short_of_few ht hfm).2.1
  obtain ⟨ao, cap, rfl, _, _, _⟩ := hs
  obtain ⟨bo, bap, rfl, _, _, _⟩ := ht
  have hq : (c == 0) = false := by simpa using hc0
  clear hg hfl hfm
  go_enter Tryd.func8, Tryd.ntmps8
  go_wp2_with fail
  refine (first_any _ HG.out).mono ?_
  rintro e w1 ⟨rfl, hb⟩
  have HB := Lib.hid hb
  clear hb
  go_wp2_with fail
  refine (few_any _ l _ (HS.out.on HB.out)).mono ?_
  rintro e w2 ⟨rfl, rfl⟩
  rw [HFL.out]
  go_wp2_with fail
  refine (few_any _ m _ (HT.out.on HB.out)).mono ?_
  rintro e w2 ⟨rfl, rfl⟩
  rw [HFM.out]
  go_wp2_with fail
  refine (made_some c hc0 _ l _ (HS.out.on HB.out) hll).mono ?_
  rintro e w2 ⟨mv, rfl, hch, hb⟩
  have HI : Hid (PartsInv w c l m mv 0 mv w2) := Lib.hid ⟨hch, hch, HB.out.trans (hb.mono HB.out.size)⟩
  obtain ⟨te, ye, he⟩ := hch.iface
  subst he
  clear hb hch
  go_wp2
  go_loopg [8, 9] m.length (fun k s8 s9 wr => ∃ i : Nat, i ≤ m.length ∧ k = m.length - i ∧ s9 = .int .i64 i ∧ Hid (PartsInv w c l m (.iface te ye) i s8 wr))
  case atStart => exact ⟨0, Nat.zero_le _, rfl, rfl, HI⟩
  case round =>
    obtain ⟨i, hi, rfl, rfl, hinv⟩ := hrel
    by_cases hlt : i < m.length
    · obtain ⟨bo', bap', hv, _, hx, hc⟩ := HT.out.on hinv.out.2.2
      cases hv
      obtain ⟨b, off, rfl, hblt, h0, h1⟩ := hc i hlt
      obtain ⟨tx, yx, he⟩ := hinv.out.1.iface
      subst he
      clear hc hx
      go_wp2
      go_still_tail 11, (by kernel_rfl)
      go_wp2_with fail
      refine (in_some _ _ _ _ _).mono ?_
      rintro e w3 ⟨rfl, rfl⟩
      have hinv3 : Hid (PartsInv w c l m (.iface te ye) (i + 1) (.iface 42 (.pointer (some ⟨wr.heap.size, 0, none⟩))) (wr.drew.alloc (.cells #[.string m[i].1, .int .i64 m[i].2, .iface tx yx] 47))) := Lib.hid ⟨by
        rw [take_rev m i hlt, List.cons_append]
        exact chain_cons (w := wr.drew) _ _ (hinv.out.1.on (Below.refl _ _).drew), (hinv.out.2.1.on (Below.refl _ _).drew).on (below_new wr.drew _), hinv.out.2.2.drew.trans ((below_new wr.drew _).mono hinv.out.2.2.size)⟩
      clear hinv
      go_wp2
      go_roundg (m.length - (i + 1))
      case measure => omega
      case rel => exact ⟨i + 1, by omega, rfl, by go_num, hinv3⟩
    · have hil : i = m.length := by omega
      obtain ⟨wo, hwo⟩ : ∃ x, x = wr := ⟨wr, rfl⟩
      subst hwo
      have HV : Hid (Chain wo (.iface 22 (.int .i64 c)) (m.reverse ++ l.reverse) u8 ∧ Chain wo (.iface 22 (.int .i64 c)) l.reverse (.iface te ye) ∧ Below w.heap.size w wo) := Lib.hid (by have := hinv.out; unfold PartsInv at this; rw [hil, List.take_length] at this; exact this)
      obtain ⟨tx, yx, he⟩ := HV.out.1.iface
      subst he
      clear hil hinv
      go_wp2_with fail
      refine (path_steps _ _ _ _ (HG.out.on HV.out.2.2).1 (.inr ⟨22, _, rfl, .inl rfl⟩) HV.out.2.1 (by rw [List.length_reverse]; omega)).mono ?_
      rintro e w6 ⟨⟨pv, rfl, hpv⟩, hb⟩
      have HP := Lib.hid hpv
      have HB6 : Hid (Below wo.heap.size wo w6) := Lib.hid hb
      clear hpv hb
      go_wp2_with fail
      refine (path_steps _ _ _ _ ((HG.out.on HV.out.2.2).on HB6.out).1 (.inr ⟨22, _, rfl, .inl rfl⟩) (HV.out.1.on HB6.out) (by rw [List.length_append, List.length_reverse, List.length_reverse]; omega)).mono ?_
      rintro e w7 ⟨⟨qv, rfl, hqv⟩, hb⟩
      have HB7 : Hid (Below wo.heap.size wo w7) := Lib.hid (HB6.out.trans (hb.mono HB6.out.size))
      have HP7 := Lib.hid (HP.out.on hb)
      have HQ7 := Lib.hid hqv
      clear hb HP HB6
      obtain ⟨aq, capq, hq1, hqc⟩ := hqv
      subst hq1
      obtain ⟨ap, capp, hp1, hpc⟩ := HP7.out
      subst hp1
      clear hqc hpc
      rw [List.length_append, List.length_reverse, List.length_reverse]
      go_wp2_with fail
      go_loopg [12] (m.length + l.length) (fun k s12 wx => ∃ i : Nat, i ≤ m.length + l.length ∧ k = m.length + l.length - i ∧ s12 = .int .i64 i ∧ Hid (Below w7.heap.size w7 wx))
      case atStart => exact ⟨0, Nat.zero_le _, rfl, rfl, Lib.hid (Below.refl _ _)⟩
      case round =>
        obtain ⟨j, hj, rfl, rfl, hbx⟩ := hrel
        by_cases hlj : j < m.length + l.length
        · obtain ⟨aq', capq', hq1', hqc⟩ := HQ7.out.on hbx.out
          obtain ⟨gq, hgq, _, r0, r1⟩ := hqc j (by rw [List.length_append, List.length_reverse, List.length_reverse]; exact hlj)
          simp only [Value.slice.injEq] at hq1'
          obtain ⟨rfl, hh2, rfl⟩ := hq1'
          subst hgq
          clear hh2 hqc
          by_cases hjm : j < m.length
          · rw [parts_left l m j hjm _ (by omega)] at r0 r1
            obtain ⟨bo', bap', hv, _, hx, hc⟩ := (HT.out.on HV.out.2.2).on (HB7.out.trans (hbx.out.mono HB7.out.size))
            cases hv
            obtain ⟨b, off, rfl, hblt, h0, h1⟩ := hc (m.length - 1 - j) (by omega)
            generalize m[m.length - 1 - j]'(by omega) = x at r0 r1 h0 h1
            generalize hk : m.length - 1 - j = k at h0 h1
            have hw1 : IntKind.i64.wrap ((m.length : Int) - 1) = (m.length : Int) - 1 := IntWalk.i64_in _ (by omega)
            have hw2 : (m.length : Int) - 1 - (j : Int) = (k : Int) := by omega
            have hw3 : IntKind.i64.wrap (k : Int) = (k : Int) := IntWalk.i64_in _ (by omega)
            have hk0 : (0 : Int) ≤ (k : Int) := by omega
            have hk1 : (k : Int) < (m.length : Int) := by omega
            have HK := Lib.hid hk
            clear hc hx hk
            go_wp2_with fail
            go_quiet (fail)
            have HB8 : Hid (Below w7.heap.size w7 (wr.drewN nq)) := Lib.hid (below_drewN hbx.out nq)
            clear hw1 hw2 hw3
            go_wp2
            go_roundg (m.length + l.length - (j + 1))
            case measure => omega
            case rel => exact ⟨j + 1, by omega, rfl, by go_num, HB8⟩
          · rw [parts_right l m j (by omega) _ (by rw [List.length_reverse]; omega)] at r0 r1
            obtain ⟨ap', capp', hp1', hpc⟩ := HP7.out.on hbx.out
            obtain ⟨gp, hgp, _, p0, p1⟩ := hpc (j - m.length) (by rw [List.length_reverse]; omega)
            generalize l.reverse[j - m.length]'(by rw [List.length_reverse]; omega) = x at r0 r1 p0 p1
            generalize hk : j - m.length = k at p0 p1
            simp only [Value.slice.injEq] at hp1'
            obtain ⟨rfl, hh1, rfl⟩ := hp1'
            subst hgp
            have hw2 : (j : Int) - (m.length : Int) = (k : Int) := by omega
            have hw3 : IntKind.i64.wrap (k : Int) = (k : Int) := IntWalk.i64_in _ (by omega)
            have hk0 : (0 : Int) ≤ (k : Int) := by omega
            have hk1 : (k : Int) < (l.length : Int) := by omega
            have HK := Lib.hid hk
            clear hpc hk hh1
            go_wp2_with fail
            go_quiet (fail)
            have HB8 : Hid (Below w7.heap.size w7 (wr.drewN nq)) := Lib.hid (below_drewN hbx.out nq)
            clear hw2 hw3
            go_wp2
            go_roundg (m.length + l.length - (j + 1))
            case measure => omega
            case rel => exact ⟨j + 1, by omega, rfl, by go_num, HB8⟩
        · have HBR : Hid (Below wo.heap.size wo wr) := Lib.hid (HB7.out.trans (hbx.out.mono HB7.out.size))
          clear hbx
          go_wp2_with fail
          refine (first_any _ ((HG.out.on HV.out.2.2).on HBR.out)).mono ?_
          rintro e w8 ⟨rfl, hb⟩
          have HB8 : Hid (Below wo.heap.size wo w8) := Lib.hid (HBR.out.trans (hb.mono HBR.out.size))
          clear hb HBR
          go_wp2_with fail
          refine (of_code _ _ c _ ((HG.out.on HV.out.2.2).on HB8.out).1 (HV.out.1.on HB8.out)).mono ?_
          rintro e w9 ⟨rfl, hb⟩
          have HB9 : Hid (Below wo.heap.size wo w9) := Lib.hid (HB8.out.trans (hb.mono HB8.out.size))
          clear hb HB8
          go_wp2_with fail
          refine (fis_code _ _ c c _ (HV.out.1.on HB9.out)).mono ?_
          rintro e w10 ⟨rfl, hb⟩
          have HB10 : Hid (Below w.heap.size w w10) := Lib.hid (HV.out.2.2.trans ((HB9.out.trans (hb.mono HB9.out.size)).mono HV.out.2.2.size))
          clear hb HB9
          rw [beq_self_eq_true]
          go_wp2
          go_ret
          exact ⟨rfl, HB10.out⟩

set_option maxRecDepth 100000 in
set_option maxHeartbeats 2000000 in
/-- .. where the bounds of the law do not hold. -/
theorem parts_out (c : Int) (v u : Value) (l m : List (ByteArray × Int)) (w : World) (hs : StepsAt w v l) (ht : StepsAt w u m) (hg : Ready w) (h : c = 0 ∨ fewB l = false ∨ fewB m = false) :
    Calls Tryd.prog 8 #[.int .i64 c, v, u] w fun e w' => e = .returned (.bool true) ∧ Below w.heap.size w w' := by
  have HS := Lib.hid hs
  have HT := Lib.hid ht
  have HG := Lib.hid hg
  have HH := Lib.hid h
  obtain ⟨ao, cap, rfl, _, _, _⟩ := hs
  obtain ⟨bo, bap, rfl, _, _, _⟩ := ht
  clear hg h
  go_enter Tryd.func8, Tryd.ntmps8
  go_wp2_with fail
  refine (first_any _ HG.out).mono ?_
  rintro e w1 ⟨rfl, hb⟩
  have HB := Lib.hid hb
  clear hb
  go_wp2_with fail
  refine (few_any _ l _ (HS.out.on HB.out)).mono ?_
  rintro e w2 ⟨rfl, rfl⟩
  cases hf : fewB l with
  | false =>
    clear hf
    go_wp2_with fail
    refine (first_any _ (HG.out.on HB.out)).mono ?_
    rintro e w2 ⟨rfl, hb⟩
    have HB2 := Lib.hid (HB.out.trans (hb.mono HB.out.size))
    clear hb
    go_wp2
    go_ret
    exact ⟨rfl, HB2.out⟩
  | true =>
    have HF := Lib.hid hf
    clear hf
    go_wp2_with fail
    refine (few_any _ m _ (HT.out.on HB.out)).mono ?_
    rintro e w2 ⟨rfl, rfl⟩
    cases hf : fewB m with
    | false =>
      clear hf
      go_wp2_with fail
      refine (first_any _ (HG.out.on HB.out)).mono ?_
      rintro e w2 ⟨rfl, hb⟩
      have HB2 := Lib.hid (HB.out.trans (hb.mono HB.out.size))
      clear hb
      go_wp2
      go_ret
      exact ⟨rfl, HB2.out⟩
    | true =>
      have hc : c = 0 := by
        rcases HH.out with h | h | h
        · exact h
        · rw [HF.out] at h; cases h
        · rw [hf] at h; cases h
      subst hc
      clear hf
      go_wp2_with fail
      refine (first_any _ (HG.out.on HB.out)).mono ?_
      rintro e w2 ⟨rfl, hb⟩
      have HB2 := Lib.hid (HB.out.trans (hb.mono HB.out.size))
      clear hb
      go_wp2
      go_ret
      exact ⟨rfl, HB2.out⟩

theorem parts_any (c : Int) (v u : Value) (l m : List (ByteArray × Int)) (w : World) (hs : StepsAt w v l) (ht : StepsAt w u m) (hg : Ready w) :
    Calls Tryd.prog 8 #[.int .i64 c, v, u] w fun e w' => e = .returned (.bool true) ∧ Below w.heap.size w w' := by
  by_cases hc : c = 0
  · exact parts_out c v u l m w hs ht hg (.inl hc)
  · cases hf : fewB l with
    | false => exact parts_out c v u l m w hs ht hg (.inr (.inl hf))
    | true =>
      cases hf2 : fewB m with
      | false => exact parts_out c v u l m w hs ht hg (.inr (.inr hf2))
      | true => exact parts_in c v u l m w hs ht hg hc hf hf2
end Go.Proofs.YtcdjiejpccakaaaDoor
