/- yardlaw6.first answers true: the chapter's examples; all older memory stands. -/
import Derived.Test.YtpocjmlkhophoaaGreatDoorFew
namespace Go.Proofs.YtpocjmlkhophoaaGreatDoor
open Go.RowKit Go.Extern.Stop Go.Stop Go.Extern

theorem print_len (c : Cfg) (n : Nat) (hn : (imageB c).length = n) (sl po pt ct : Value) (w : World) (hl : ListsAt w c sl po pt ct) (hf : FewC c) (hc : (checkR c).2 = 0) : Calls Tryz.prog 17 #[cfgV c sl po pt ct] w fun e w' => ∃ a cp, e = .returned (.tuple #[.slice a n cp, .nilIface]) ∧ Below w.heap.size w w' := by
  subst hn
  refine (print_ok c sl po pt ct w hl hf hc).mono ?_
  rintro e w2 ⟨v, rfl, ho, hb⟩
  obtain ⟨a, cp, rfl⟩ := row_form ho
  exact ⟨a, cp, rfl, hb⟩
/-- What the walk needs of the least configuration. -/
structure LeastOf (c : Cfg) : Prop where
  call : ∀ w, Calls Tryz.prog 36 #[] w fun e w' => ∃ a q, e = .returned (cfgV c (.slice a 1 q) (.slice none 0 0) (.slice none 0 0) (.slice none 0 0)) ∧ ListsAt w' c (.slice a 1 q) (.slice none 0 0) (.slice none 0 0) (.slice none 0 0) ∧ Below w.heap.size w w'
  few : FewC c
  ok : checkR c = okR
  far : checkR { c with own := 65520 } = ([(sConfig, 1)], 1)
  two : checkR { c with slaves := [7, 7] } = ([(sConfig, 11), (sItem, 1)], 1)
  len : (imageB c).length = 29
theorem f_itoa1 : Lib.itoa 1 = [49] := by simp [Lib.itoa, Lib.decDigits]
theorem f_itoa11 : Lib.itoa 11 = [49, 49] := by simp [Lib.itoa, Lib.decDigits]
theorem far_text : (⟨(pathText [(sConfig, 1)] ++ (codeText 1).data.toList).toArray⟩ : ByteArray) = ⟨#[99, 111, 110, 102, 105, 103, 32, 49, 58, 32, 99, 111, 100, 101, 32, 49]⟩ := by
  unfold pathText pathText place codeText
  rw [f_itoa1]
  decide +kernel
theorem far_short : Short [(sConfig, 1)] := by
  have e : pathText [(sConfig, 1)] = [99, 111, 110, 102, 105, 103, 32, 49, 58, 32] := by
    unfold pathText pathText place
    rw [f_itoa1]
    decide +kernel
  refine ⟨by rw [e]; decide, by decide, ?_⟩
  intro x hx
  simp at hx
  subst hx
  exact ⟨by decide, by unfold IsInt; omega⟩
theorem two_text : (⟨(pathText [(sConfig, 11), (sItem, 1)] ++ (codeText 1).data.toList).toArray⟩ : ByteArray) = ⟨#[99, 111, 110, 102, 105, 103, 32, 49, 49, 58, 32, 105, 116, 101, 109, 32, 49, 58, 32, 99, 111, 100, 101, 32, 49]⟩ := by
  unfold pathText pathText pathText place codeText
  rw [f_itoa1, f_itoa11]
  decide +kernel
theorem two_short : Short [(sConfig, 11), (sItem, 1)] := by
  have e : pathText [(sConfig, 11), (sItem, 1)] = [99, 111, 110, 102, 105, 103, 32, 49, 49, 58, 32, 105, 116, 101, 109, 32, 49, 58, 32] := by
    unfold pathText pathText pathText place
    rw [f_itoa1, f_itoa11]
    decide +kernel
  refine ⟨by rw [e]; decide, by decide, ?_⟩
  intro x hx
  simp at hx
  rcases hx with rfl | rfl
  · exact ⟨by decide, by unfold IsInt; omega⟩
  · exact ⟨by decide, by unfold IsInt; omega⟩
theorem threeBelow (w : World) (o p q : Obj) : Below w.heap.size w (((w.alloc o).alloc p).alloc q) := (twoBelow w o p).trans ((below_new _ q).mono (twoBelow w o p).size)
theorem first_world (c : Cfg) (w4 : World) (a3 : Option Addr) (q3 : Nat) (h3 : ListsAt w4 c (.slice a3 1 q3) (.slice none 0 0) (.slice none 0 0) (.slice none 0 0)) :
    CfgBox (((w4.alloc (Obj.cells #[Value.int IntKind.i64 65520, Value.int IntKind.i64 c.master, Value.bool c.unsol, Value.int IntKind.i64 c.reply, Value.int IntKind.i64 c.silence, Value.int IntKind.i64 c.retries, Value.int IntKind.i64 c.offline, Value.int IntKind.i64 c.select, Value.int IntKind.i64 c.confirm, Value.int IntKind.i64 c.frag, Value.int IntKind.i64 c.r0, Value.int IntKind.i64 c.r1, Value.int IntKind.i64 c.r2, Value.slice a3 1 q3, Value.slice none 0 0, Value.slice none 0 0, Value.slice none 0 0] 28)).alloc (Obj.cells #[Value.int IntKind.i64 c.own, Value.int IntKind.i64 c.master, Value.bool c.unsol, Value.int IntKind.i64 c.reply, Value.int IntKind.i64 c.silence, Value.int IntKind.i64 c.retries, Value.int IntKind.i64 c.offline, Value.int IntKind.i64 c.select, Value.int IntKind.i64 c.confirm, Value.int IntKind.i64 c.frag, Value.int IntKind.i64 c.r0, Value.int IntKind.i64 c.r1, Value.int IntKind.i64 c.r2, Value.slice (some ⟨w4.heap.size + 1 + 1, 0, none⟩) 2 2, Value.slice none 0 0, Value.slice none 0 0, Value.slice none 0 0] 28)).alloc (Obj.cells #[Value.int IntKind.i64 7, Value.int IntKind.i64 7] 3)) (w4.heap.size + 1) c (.slice (some ⟨w4.heap.size + 1 + 1, 0, none⟩) 2 2) (.slice none 0 0) (.slice none 0 0) (.slice none 0 0) ∧ ListsAt (((w4.alloc (Obj.cells #[Value.int IntKind.i64 65520, Value.int IntKind.i64 c.master, Value.bool c.unsol, Value.int IntKind.i64 c.reply, Value.int IntKind.i64 c.silence, Value.int IntKind.i64 c.retries, Value.int IntKind.i64 c.offline, Value.int IntKind.i64 c.select, Value.int IntKind.i64 c.confirm, Value.int IntKind.i64 c.frag, Value.int IntKind.i64 c.r0, Value.int IntKind.i64 c.r1, Value.int IntKind.i64 c.r2, Value.slice a3 1 q3, Value.slice none 0 0, Value.slice none 0 0, Value.slice none 0 0] 28)).alloc (Obj.cells #[Value.int IntKind.i64 c.own, Value.int IntKind.i64 c.master, Value.bool c.unsol, Value.int IntKind.i64 c.reply, Value.int IntKind.i64 c.silence, Value.int IntKind.i64 c.retries, Value.int IntKind.i64 c.offline, Value.int IntKind.i64 c.select, Value.int IntKind.i64 c.confirm, Value.int IntKind.i64 c.frag, Value.int IntKind.i64 c.r0, Value.int IntKind.i64 c.r1, Value.int IntKind.i64 c.r2, Value.slice (some ⟨w4.heap.size + 1 + 1, 0, none⟩) 2 2, Value.slice none 0 0, Value.slice none 0 0, Value.slice none 0 0] 28)).alloc (Obj.cells #[Value.int IntKind.i64 7, Value.int IntKind.i64 7] 3)) { c with own := 65520 } (.slice a3 1 q3) (.slice none 0 0) (.slice none 0 0) (.slice none 0 0) ∧ ListsAt (((w4.alloc (Obj.cells #[Value.int IntKind.i64 65520, Value.int IntKind.i64 c.master, Value.bool c.unsol, Value.int IntKind.i64 c.reply, Value.int IntKind.i64 c.silence, Value.int IntKind.i64 c.retries, Value.int IntKind.i64 c.offline, Value.int IntKind.i64 c.select, Value.int IntKind.i64 c.confirm, Value.int IntKind.i64 c.frag, Value.int IntKind.i64 c.r0, Value.int IntKind.i64 c.r1, Value.int IntKind.i64 c.r2, Value.slice a3 1 q3, Value.slice none 0 0, Value.slice none 0 0, Value.slice none 0 0] 28)).alloc (Obj.cells #[Value.int IntKind.i64 c.own, Value.int IntKind.i64 c.master, Value.bool c.unsol, Value.int IntKind.i64 c.reply, Value.int IntKind.i64 c.silence, Value.int IntKind.i64 c.retries, Value.int IntKind.i64 c.offline, Value.int IntKind.i64 c.select, Value.int IntKind.i64 c.confirm, Value.int IntKind.i64 c.frag, Value.int IntKind.i64 c.r0, Value.int IntKind.i64 c.r1, Value.int IntKind.i64 c.r2, Value.slice (some ⟨w4.heap.size + 1 + 1, 0, none⟩) 2 2, Value.slice none 0 0, Value.slice none 0 0, Value.slice none 0 0] 28)).alloc (Obj.cells #[Value.int IntKind.i64 7, Value.int IntKind.i64 7] 3)) { c with slaves := [7, 7] } (.slice (some ⟨w4.heap.size + 1 + 1, 0, none⟩) 2 2) (.slice none 0 0) (.slice none 0 0) (.slice none 0 0) := by
  have hb := threeBelow w4 (Obj.cells #[Value.int IntKind.i64 65520, Value.int IntKind.i64 c.master, Value.bool c.unsol, Value.int IntKind.i64 c.reply, Value.int IntKind.i64 c.silence, Value.int IntKind.i64 c.retries, Value.int IntKind.i64 c.offline, Value.int IntKind.i64 c.select, Value.int IntKind.i64 c.confirm, Value.int IntKind.i64 c.frag, Value.int IntKind.i64 c.r0, Value.int IntKind.i64 c.r1, Value.int IntKind.i64 c.r2, Value.slice a3 1 q3, Value.slice none 0 0, Value.slice none 0 0, Value.slice none 0 0] 28) (Obj.cells #[Value.int IntKind.i64 c.own, Value.int IntKind.i64 c.master, Value.bool c.unsol, Value.int IntKind.i64 c.reply, Value.int IntKind.i64 c.silence, Value.int IntKind.i64 c.retries, Value.int IntKind.i64 c.offline, Value.int IntKind.i64 c.select, Value.int IntKind.i64 c.confirm, Value.int IntKind.i64 c.frag, Value.int IntKind.i64 c.r0, Value.int IntKind.i64 c.r1, Value.int IntKind.i64 c.r2, Value.slice (some ⟨w4.heap.size + 1 + 1, 0, none⟩) 2 2, Value.slice none 0 0, Value.slice none 0 0, Value.slice none 0 0] 28) (Obj.cells #[Value.int IntKind.i64 7, Value.int IntKind.i64 7] 3)
  have h := h3.on hb
  refine ⟨?_, ⟨h.sl, h.po, h.pt, h.ct⟩, ⟨?_, h.po, h.pt, h.ct⟩⟩
  · exact ((below_new _ _).block _ (by simp)).trans (two_new w4 _ _).2
  · have := two_lies ((w4.alloc (Obj.cells #[Value.int IntKind.i64 65520, Value.int IntKind.i64 c.master, Value.bool c.unsol, Value.int IntKind.i64 c.reply, Value.int IntKind.i64 c.silence, Value.int IntKind.i64 c.retries, Value.int IntKind.i64 c.offline, Value.int IntKind.i64 c.select, Value.int IntKind.i64 c.confirm, Value.int IntKind.i64 c.frag, Value.int IntKind.i64 c.r0, Value.int IntKind.i64 c.r1, Value.int IntKind.i64 c.r2, Value.slice a3 1 q3, Value.slice none 0 0, Value.slice none 0 0, Value.slice none 0 0] 28)).alloc (Obj.cells #[Value.int IntKind.i64 c.own, Value.int IntKind.i64 c.master, Value.bool c.unsol, Value.int IntKind.i64 c.reply, Value.int IntKind.i64 c.silence, Value.int IntKind.i64 c.retries, Value.int IntKind.i64 c.offline, Value.int IntKind.i64 c.select, Value.int IntKind.i64 c.confirm, Value.int IntKind.i64 c.frag, Value.int IntKind.i64 c.r0, Value.int IntKind.i64 c.r1, Value.int IntKind.i64 c.r2, Value.slice (some ⟨w4.heap.size + 1 + 1, 0, none⟩) 2 2, Value.slice none 0 0, Value.slice none 0 0, Value.slice none 0 0] 28)) 7 7
    simpa using this
theorem err_chain {w : World} {r : Res} {p : List (ByteArray × Int)} {v : Value} (h : ErrIs w r v) (hr : r = (p, 1)) : Chain w (.iface 32 (.int .i64 1)) p v := by
  subst hr
  exact h
set_option maxRecDepth 100000 in
set_option maxHeartbeats 8000000 in
theorem first_of (c : Cfg) (hc : LeastOf c) (w : World) (hg : Ready w) : Calls Tryz.prog 13 #[] w fun e w' => e = .returned (.bool true) ∧ Below w.heap.size w w' := by
  have HG := Lib.hid hg
  have HC := Lib.hid hc
  clear hg hc
  go_enter Tryz.func13, Tryz.ntmps13
  go_wp2_with fail
  refine (HC.out.call _).mono ?_
  rintro e w1 ⟨a1, q1, rfl, hl1, hb1⟩
  have HL1 := Lib.hid hl1
  have HB1 := Lib.hid hb1
  clear hl1 hb1
  go_wp2_with fail
  refine (print_len c 29 HC.out.len _ _ _ _ w1 HL1.out HC.out.few (by rw [HC.out.ok]; rfl)).mono ?_
  rintro e w2 ⟨a, cp, rfl, hb2⟩
  have HB2 := Lib.hid (HB1.out.trans (hb2.mono HB1.out.size))
  clear hb2 HL1
  generalize cfgV c (.slice a1 1 q1) (.slice none 0 0) (.slice none 0 0) (.slice none 0 0) = x1
  go_wp2_with fail
  refine (HC.out.call _).mono ?_
  rintro e w3 ⟨a3, q3, rfl, hl3, hb3⟩
  have HL3 := Lib.hid hl3
  have HB3 := Lib.hid (HB2.out.trans (hb3.mono HB2.out.size))
  clear hl3 hb3
  go_wp2_with fail
  refine (HC.out.call _).mono ?_
  rintro e w4 ⟨a4, q4, rfl, hl4, hb4⟩
  unfold cfgV
  have HL4 := Lib.hid (And.intro (HL3.out.on hb4) hl4)
  have HB4 := Lib.hid (HB3.out.trans (hb4.mono HB3.out.size))
  clear hl4 hb4 HL3
  rename_i K1 hK1 K2 hK2
  have H1 := Lib.hid hK1
  clear hK1
  go_wp2_with fail
  refine H1.out _ _ ?_
  clear H1
  generalize Value.agg #[Value.int IntKind.i64 c.own, Value.int IntKind.i64 c.master, Value.bool c.unsol, Value.int IntKind.i64 c.reply, Value.int IntKind.i64 c.silence, Value.int IntKind.i64 c.retries, Value.int IntKind.i64 c.offline, Value.int IntKind.i64 c.select, Value.int IntKind.i64 c.confirm, Value.int IntKind.i64 c.frag, Value.int IntKind.i64 c.r0, Value.int IntKind.i64 c.r1, Value.int IntKind.i64 c.r2, Value.slice a3 1 q3, Value.slice none 0 0, Value.slice none 0 0, Value.slice none 0 0] = x3
  generalize Value.agg #[Value.int IntKind.i64 c.own, Value.int IntKind.i64 c.master, Value.bool c.unsol, Value.int IntKind.i64 c.reply, Value.int IntKind.i64 c.silence, Value.int IntKind.i64 c.retries, Value.int IntKind.i64 c.offline, Value.int IntKind.i64 c.select, Value.int IntKind.i64 c.confirm, Value.int IntKind.i64 c.frag, Value.int IntKind.i64 c.r0, Value.int IntKind.i64 c.r1, Value.int IntKind.i64 c.r2, Value.slice a4 1 q4, Value.slice none 0 0, Value.slice none 0 0, Value.slice none 0 0] = x4
  as_aux_lemma =>
    have HW := Lib.hid (first_world c w4 a3 q3 HL4.out.1)
    have HB5 := Lib.hid (HB4.out.trans ((threeBelow w4 (Obj.cells #[Value.int IntKind.i64 65520, Value.int IntKind.i64 c.master, Value.bool c.unsol, Value.int IntKind.i64 c.reply, Value.int IntKind.i64 c.silence, Value.int IntKind.i64 c.retries, Value.int IntKind.i64 c.offline, Value.int IntKind.i64 c.select, Value.int IntKind.i64 c.confirm, Value.int IntKind.i64 c.frag, Value.int IntKind.i64 c.r0, Value.int IntKind.i64 c.r1, Value.int IntKind.i64 c.r2, Value.slice a3 1 q3, Value.slice none 0 0, Value.slice none 0 0, Value.slice none 0 0] 28) (Obj.cells #[Value.int IntKind.i64 c.own, Value.int IntKind.i64 c.master, Value.bool c.unsol, Value.int IntKind.i64 c.reply, Value.int IntKind.i64 c.silence, Value.int IntKind.i64 c.retries, Value.int IntKind.i64 c.offline, Value.int IntKind.i64 c.select, Value.int IntKind.i64 c.confirm, Value.int IntKind.i64 c.frag, Value.int IntKind.i64 c.r0, Value.int IntKind.i64 c.r1, Value.int IntKind.i64 c.r2, Value.slice (some ⟨w4.heap.size + 1 + 1, 0, none⟩) 2 2, Value.slice none 0 0, Value.slice none 0 0, Value.slice none 0 0] 28) (Obj.cells #[Value.int IntKind.i64 7, Value.int IntKind.i64 7] 3)).mono HB4.out.size))
    go_wp2_with fail
    refine (check_any { c with own := 65520 } _ _ _ _ _ HW.out.2.1 HC.out.few).mono ?_
    rintro e w6 ⟨v, rfl, he, hb⟩
    have HE := Lib.hid (err_chain he HC.out.far)
    have HX6 := Lib.hid (HW.out.1.on hb)
    have HL6 := Lib.hid (HW.out.2.2.on hb)
    have HB6 := Lib.hid (HB5.out.trans (hb.mono HB5.out.size))
    clear he hb HB5 HW
    go_wp2_with fail
    refine (text_any _ _ 1 (by unfold IsInt; omega) _ (HG.out.on HB6.out) HE.out far_short).mono ?_
    rintro e w7 ⟨rfl, hb⟩
    have HX7 := Lib.hid (HX6.out.on hb)
    have HL7 := Lib.hid (HL6.out.on hb)
    have HB7 := Lib.hid (HB6.out.trans (hb.mono HB6.out.size))
    clear hb HB6 HX6 HL6 HE
    rw [far_text]
    obtain ⟨k0, k1, k2, k3, k4, k5, k6, k7, k8, k9, k10, k11, k12⟩ := HX7.out.fields
    obtain ⟨k13, k14, k15, k16⟩ := HX7.out.lists
    go_wp2_with fail
    refine (check_any { c with slaves := [7, 7] } _ _ _ _ _ HL7.out (by have := HC.out.few; exact ⟨by simp, this.2.1, this.2.2.1, this.2.2.2⟩)).mono ?_
    rintro e w8 ⟨v2, rfl, he, hb⟩
    have HE := Lib.hid (err_chain he HC.out.two)
    have HB8 := Lib.hid (HB7.out.trans (hb.mono HB7.out.size))
    clear he hb HB7 HX7 HL7 k0 k1 k2 k3 k4 k5 k6 k7 k8 k9 k10 k11 k12 k13 k14 k15 k16
    go_wp2_with fail
    refine (text_any _ _ 1 (by unfold IsInt; omega) _ (HG.out.on HB8.out) HE.out two_short).mono ?_
    rintro e w9 ⟨rfl, hb⟩
    have HB9 := Lib.hid (HB8.out.trans (hb.mono HB8.out.size))
    clear hb HB8 HE
    rw [two_text]
    go_wp2_with fail
    refine (HC.out.call _).mono ?_
    rintro e w10 ⟨a10, q10, rfl, hl, hb⟩
    have HL := Lib.hid hl
    have HB10 := Lib.hid (HB9.out.trans (hb.mono HB9.out.size))
    clear hl hb HB9
    go_wp2_with fail
    refine (check_any c _ _ _ _ _ HL.out HC.out.few).mono ?_
    rintro e w11 ⟨v3, rfl, he, hb⟩
    obtain rfl : v3 = .nilIface := by unfold ErrIs at he; rw [if_pos (by rw [HC.out.ok]; rfl)] at he; exact he
    have HB11 := Lib.hid (HB10.out.trans (hb.mono HB10.out.size))
    clear he hb HB10 HL
    go_wp2
    go_ret
    exact ⟨rfl, HB11.out⟩
theorem least_of : LeastOf leastC := ⟨fun w => (least_any w).mono (by
    rintro e w' ⟨g, rfl, hl, hb⟩
    exact ⟨_, _, rfl, ⟨hl, nil_lies _ _ _ rfl rfl, nil_lies _ _ _ rfl rfl, nil_lies _ _ _ rfl rfl⟩, hb⟩), by unfold FewC leastC; simp, least_check, far_check, two_check, least_length⟩
theorem first_any (w : World) (hg : Ready w) : Calls Tryz.prog 13 #[] w fun e w' => e = .returned (.bool true) ∧ Below w.heap.size w w' := first_of leastC least_of w hg
end Go.Proofs.YtpocjmlkhophoaaGreatDoor
