/- yardlaw6.ConfigUnlike answers true; all older memory stands. -/
import Derived.Test.YtpocjmlkhophoaaGreatDoorGrow2
import Derived.Test.YtpocjmlkhophoaaGreatDoorSizes
namespace Go.Proofs.YtpocjmlkhophoaaGreatDoor
open Go.RowKit Go.Extern.Stop Go.Stop Go.Extern

set_option maxRecDepth 100000 in
set_option maxHeartbeats 8000000 in
theorem unlike_any (hfirst : FirstOK) (c d : Cfg) (field more : Int) (sl po pt ct sl2 po2 pt2 ct2 : Value) (w : World) (hg : Ready w) (hl : ListsAt w c sl po pt ct) (hl2 : ListsAt w d sl2 po2 pt2 ct2) (hi4 : I64 more) : Calls Tryz.prog 12 #[cfgV c sl po pt ct, cfgV d sl2 po2 pt2 ct2, .int .i64 field, .int .i64 more] w fun e w' => e = .returned (.bool true) ∧ Below w.heap.size w w' := by
  have HFI := Lib.hid hfirst
  have HG := Lib.hid hg
  have HT0 := Lib.hid (two_start w c d sl po pt ct sl2 po2 pt2 ct2 hl hl2)
  have HL0 := Lib.hid (And.intro hl hl2)
  have HI := Lib.hid hi4
  clear hl hl2 hg hfirst hi4
  go_enter Tryz.func12, Tryz.ntmps12
  unfold cfgV
  go_wp2_with fail
  generalize (w.alloc (.cells #[.int .i64 c.own, .int .i64 c.master, .bool c.unsol, .int .i64 c.reply, .int .i64 c.silence, .int .i64 c.retries, .int .i64 c.offline, .int .i64 c.select, .int .i64 c.confirm, .int .i64 c.frag, .int .i64 c.r0, .int .i64 c.r1, .int .i64 c.r2, sl, po, pt, ct] 28)).alloc (.cells #[.int .i64 d.own, .int .i64 d.master, .bool d.unsol, .int .i64 d.reply, .int .i64 d.silence, .int .i64 d.retries, .int .i64 d.offline, .int .i64 d.select, .int .i64 d.confirm, .int .i64 d.frag, .int .i64 d.r0, .int .i64 d.r1, .int .i64 d.r2, sl2, po2, pt2, ct2] 28) = w0 at *
  rw [show Value.agg #[.int .i64 c.own, .int .i64 c.master, .bool c.unsol, .int .i64 c.reply, .int .i64 c.silence, .int .i64 c.retries, .int .i64 c.offline, .int .i64 c.select, .int .i64 c.confirm, .int .i64 c.frag, .int .i64 c.r0, .int .i64 c.r1, .int .i64 c.r2, sl, po, pt, ct] = cfgV c sl po pt ct from rfl, show Value.agg #[.int .i64 d.own, .int .i64 d.master, .bool d.unsol, .int .i64 d.reply, .int .i64 d.silence, .int .i64 d.retries, .int .i64 d.offline, .int .i64 d.select, .int .i64 d.confirm, .int .i64 d.frag, .int .i64 d.r0, .int .i64 d.r1, .int .i64 d.r2, sl2, po2, pt2, ct2] = cfgV d sl2 po2 pt2 ct2 from rfl]
  refine (HFI.out _ (HG.out.on HT0.out.below)).mono ?_
  rintro e w1 ⟨rfl, hb⟩
  have HT1 := Lib.hid (HT0.out.on hb)
  clear hb HT0
  go_wp2_with (first | (refine ld28 (by rfl) _ rfl w.heap.size rfl c sl po pt ct HT1.out.b1 ?_) | (refine ld28 (by rfl) _ rfl (w.heap.size + 1) rfl d sl2 po2 pt2 ct2 HT1.out.b2 ?_))
  refine (few_any c _ _ _ _ w1 HT1.out.l1).mono ?_
  rintro e w2 ⟨rfl, hb⟩
  have HT2 := Lib.hid (HT1.out.on hb)
  clear hb HT1
  by_cases hf : FewC c
  case neg =>
    rw [decide_eq_false hf]
    go_wp2_with fail
    refine (HFI.out _ (HG.out.on HT2.out.below)).mono ?_
    rintro e w9 ⟨rfl, hb⟩
    have HZ := Lib.hid (HT2.out.on hb)
    clear hb
    go_wp2
    go_ret
    exact ⟨rfl, HZ.out.below⟩
  rw [decide_eq_true hf]
  go_wp2_with (first | (refine ld28 (by rfl) _ rfl w.heap.size rfl c sl po pt ct HT2.out.b1 ?_) | (refine ld28 (by rfl) _ rfl (w.heap.size + 1) rfl d sl2 po2 pt2 ct2 HT2.out.b2 ?_))
  refine (few_any d _ _ _ _ w2 HT2.out.l2).mono ?_
  rintro e w3 ⟨rfl, hb⟩
  have HT3 := Lib.hid (HT2.out.on hb)
  clear hb HT2
  by_cases hf2 : FewC d
  case neg =>
    rw [decide_eq_false hf2]
    go_wp2_with fail
    refine (HFI.out _ (HG.out.on HT3.out.below)).mono ?_
    rintro e w9 ⟨rfl, hb⟩
    have HZ := Lib.hid (HT3.out.on hb)
    clear hb
    go_wp2
    go_ret
    exact ⟨rfl, HZ.out.below⟩
  rw [decide_eq_true hf2]
  by_cases hm : more = 0
  case pos =>
    subst hm
    go_wp2_with fail
    refine (HFI.out _ (HG.out.on HT3.out.below)).mono ?_
    rintro e w9 ⟨rfl, hb⟩
    have HZ := Lib.hid (HT3.out.on hb)
    clear hb
    go_wp2
    go_ret
    exact ⟨rfl, HZ.out.below⟩
  have hmb : (more == 0) = false := by simpa using hm
  have HM := Lib.hid hm
  have HF := Lib.hid (And.intro hf hf2)
  clear hm hf hf2
  go_wp2_with (first | (refine ld28 (by rfl) _ rfl w.heap.size rfl c sl po pt ct HT3.out.b1 ?_) | (refine ld28 (by rfl) _ rfl (w.heap.size + 1) rfl d sl2 po2 pt2 ct2 HT3.out.b2 ?_))
  refine (copyConfig_any c _ _ _ _ w3 HT3.out.l1 HF.out.1).mono ?_
  rintro e w4 ⟨v1, v2, v3, v4, rfl, ho, hb⟩
  have HT4 := Lib.hid (HT3.out.on hb)
  have hB4 : w3.heap.size ≤ w4.heap.size := hb.size
  have HB3 := Lib.hid HT3.out.below.size
  obtain ⟨ho1, ho2, ho3, ho4⟩ := ho
  obtain ⟨u1, t1, rfl⟩ := own_slice ho1
  obtain ⟨u2, t2, rfl⟩ := own_slice ho2
  obtain ⟨u3, t3, rfl⟩ := own_slice ho3
  obtain ⟨u4, t4, rfl⟩ := own_slice ho4
  have HO4 : Hid (OwnLists w4 w3.heap.size c (.slice u1 c.slaves.length t1) (.slice u2 c.polls.length t2) (.slice u3 c.points.length t3) (.slice u4 c.ctls.length t4)) := Lib.hid ⟨ho1, ho2, ho3, ho4⟩
  have HB4 := Lib.hid hB4
  clear hb HT3 ho1 ho2 ho3 ho4 hB4
  have hz0 : (w4.alloc (.cells #[.int .i64 0, .int .i64 0, .bool false, .int .i64 0, .int .i64 0, .int .i64 0, .int .i64 0, .int .i64 0, .int .i64 0, .int .i64 0, .int .i64 0, .int .i64 0, .int .i64 0, .slice none 0 0, .slice none 0 0, .slice none 0 0, .slice none 0 0] 28)).heap[w4.heap.size]? = some (.cells #[.int .i64 0, .int .i64 0, .bool false, .int .i64 0, .int .i64 0, .int .i64 0, .int .i64 0, .int .i64 0, .int .i64 0, .int .i64 0, .int .i64 0, .int .i64 0, .int .i64 0, .slice none 0 0, .slice none 0 0, .slice none 0 0, .slice none 0 0] 28 (0, 0)) := heap_alloc_new w4 _
  rename_i K0 hK0 K1 hK1
  have HK := Lib.hid hK0
  clear hK0
  go_wp2_with (refine wpList_store_row rfl 28 _ _ rfl w4.heap.size #[.int .i64 c.own, .int .i64 c.master, .bool c.unsol, .int .i64 c.reply, .int .i64 c.silence, .int .i64 c.retries, .int .i64 c.offline, .int .i64 c.select, .int .i64 c.confirm, .int .i64 c.frag, .int .i64 c.r0, .int .i64 c.r1, .int .i64 c.r2, (.slice u1 c.slaves.length t1), (.slice u2 c.polls.length t2), (.slice u3 c.points.length t3), (.slice u4 c.ctls.length t4)] rfl rfl 28 #[.int .i64 0, .int .i64 0, .bool false, .int .i64 0, .int .i64 0, .int .i64 0, .int .i64 0, .int .i64 0, .int .i64 0, .int .i64 0, .int .i64 0, .int .i64 0, .int .i64 0, .slice none 0 0, .slice none 0 0, .slice none 0 0, .slice none 0 0] hz0 (by kernel_rfl) rfl (cfg_one _ _ _ _ _ _ _ _ _ _ _ _ _) ?_)
  refine HK.out _ _ ?_
  clear HK
  have hbW : Below w4.heap.size w4 ((w4.alloc (.cells #[.int .i64 0, .int .i64 0, .bool false, .int .i64 0, .int .i64 0, .int .i64 0, .int .i64 0, .int .i64 0, .int .i64 0, .int .i64 0, .int .i64 0, .int .i64 0, .int .i64 0, .slice none 0 0, .slice none 0 0, .slice none 0 0, .slice none 0 0] 28)).setRow w4.heap.size #[.int .i64 c.own, .int .i64 c.master, .bool c.unsol, .int .i64 c.reply, .int .i64 c.silence, .int .i64 c.retries, .int .i64 c.offline, .int .i64 c.select, .int .i64 c.confirm, .int .i64 c.frag, .int .i64 c.r0, .int .i64 c.r1, .int .i64 c.r2, (.slice u1 c.slaves.length t1), (.slice u2 c.polls.length t2), (.slice u3 c.points.length t3), (.slice u4 c.ctls.length t4)]) := below_setRow (below_new w4 _) (Nat.le_refl _) _
  have HT5 := Lib.hid (HT4.out.on hbW)
  have HX5 : Hid (CfgBox ((w4.alloc (.cells #[.int .i64 0, .int .i64 0, .bool false, .int .i64 0, .int .i64 0, .int .i64 0, .int .i64 0, .int .i64 0, .int .i64 0, .int .i64 0, .int .i64 0, .int .i64 0, .int .i64 0, .slice none 0 0, .slice none 0 0, .slice none 0 0, .slice none 0 0] 28)).setRow w4.heap.size #[.int .i64 c.own, .int .i64 c.master, .bool c.unsol, .int .i64 c.reply, .int .i64 c.silence, .int .i64 c.retries, .int .i64 c.offline, .int .i64 c.select, .int .i64 c.confirm, .int .i64 c.frag, .int .i64 c.r0, .int .i64 c.r1, .int .i64 c.r2, (.slice u1 c.slaves.length t1), (.slice u2 c.polls.length t2), (.slice u3 c.points.length t3), (.slice u4 c.ctls.length t4)]) w4.heap.size c (.slice u1 c.slaves.length t1) (.slice u2 c.polls.length t2) (.slice u3 c.points.length t3) (.slice u4 c.ctls.length t4)) := Lib.hid (setRow_heap _ _ _ _ 28 (0, 0) hz0)
  have HO5 : Hid (OwnLists ((w4.alloc (.cells #[.int .i64 0, .int .i64 0, .bool false, .int .i64 0, .int .i64 0, .int .i64 0, .int .i64 0, .int .i64 0, .int .i64 0, .int .i64 0, .int .i64 0, .int .i64 0, .int .i64 0, .slice none 0 0, .slice none 0 0, .slice none 0 0, .slice none 0 0] 28)).setRow w4.heap.size #[.int .i64 c.own, .int .i64 c.master, .bool c.unsol, .int .i64 c.reply, .int .i64 c.silence, .int .i64 c.retries, .int .i64 c.offline, .int .i64 c.select, .int .i64 c.confirm, .int .i64 c.frag, .int .i64 c.r0, .int .i64 c.r1, .int .i64 c.r2, (.slice u1 c.slaves.length t1), (.slice u2 c.polls.length t2), (.slice u3 c.points.length t3), (.slice u4 c.ctls.length t4)]) w3.heap.size c (.slice u1 c.slaves.length t1) (.slice u2 c.polls.length t2) (.slice u3 c.points.length t3) (.slice u4 c.ctls.length t4)) := Lib.hid ⟨own_setRow (HO4.out.sl.alloc _) hz0 (by decide) _, own_setRow (HO4.out.po.alloc _) hz0 (by decide) _, own_setRow (HO4.out.pt.alloc _) hz0 (by decide) _, own_setRow (HO4.out.ct.alloc _) hz0 (by decide) _⟩
  have HSZ : Hid (w3.heap.size ≤ ((w4.alloc (.cells #[.int .i64 0, .int .i64 0, .bool false, .int .i64 0, .int .i64 0, .int .i64 0, .int .i64 0, .int .i64 0, .int .i64 0, .int .i64 0, .int .i64 0, .int .i64 0, .int .i64 0, .slice none 0 0, .slice none 0 0, .slice none 0 0, .slice none 0 0] 28)).setRow w4.heap.size #[.int .i64 c.own, .int .i64 c.master, .bool c.unsol, .int .i64 c.reply, .int .i64 c.silence, .int .i64 c.retries, .int .i64 c.offline, .int .i64 c.select, .int .i64 c.confirm, .int .i64 c.frag, .int .i64 c.r0, .int .i64 c.r1, .int .i64 c.r2, (.slice u1 c.slaves.length t1), (.slice u2 c.polls.length t2), (.slice u3 c.points.length t3), (.slice u4 c.ctls.length t4)]).heap.size ∧ w.heap.size + 1 < w4.heap.size) := Lib.hid ⟨Nat.le_trans HB4.out hbW.size, by
    have := lt_heap HT4.out.b2
    omega⟩
  clear hbW hz0 HO4 HT4
  generalize (w4.alloc (.cells #[.int .i64 0, .int .i64 0, .bool false, .int .i64 0, .int .i64 0, .int .i64 0, .int .i64 0, .int .i64 0, .int .i64 0, .int .i64 0, .int .i64 0, .int .i64 0, .int .i64 0, .slice none 0 0, .slice none 0 0, .slice none 0 0, .slice none 0 0] 28)).setRow w4.heap.size #[.int .i64 c.own, .int .i64 c.master, .bool c.unsol, .int .i64 c.reply, .int .i64 c.silence, .int .i64 c.retries, .int .i64 c.offline, .int .i64 c.select, .int .i64 c.confirm, .int .i64 c.frag, .int .i64 c.r0, .int .i64 c.r1, .int .i64 c.r2, (.slice u1 c.slaves.length t1), (.slice u2 c.polls.length t2), (.slice u3 c.points.length t3), (.slice u4 c.ctls.length t4)] = W at *
  obtain ⟨k, hk⟩ : ∃ k, k = w4.heap.size := ⟨_, rfl⟩
  rw [← hk] at HX5 HSZ ⊢
  clear hk HB4
  have HSO : SomeC c := HF.out.1.some
  have HSO2 := Lib.hid HF.out.2.some
  have HSOC := Lib.hid HSO
  clear HSO

  by_cases h07 : field = 0 ∨ field = 1 ∨ field = 2 ∨ field = 3 ∨ field = 4 ∨ field = 5 ∨ field = 6
  · rcases h07 with rfl | rfl | rfl | rfl | rfl | rfl | rfl
    · obtain ⟨X, hX⟩ : ∃ X : Cfg, X = { c with own := wrap64 (c.own + more) } := ⟨_, rfl⟩
      have s0 := cells_of HX5.out 0 _ rfl
      have f0 : W.frozen? ⟨k, 0, none⟩ = false := frozen_of_row _ _ _ _ _ HX5.out
      go_wp2_with fail
      clear s0 f0
      have hbox : CfgBox (W.setCell ⟨k, 0, none⟩ (.int .i64 (wrap64 (c.own + more)))) k X (.slice u1 c.slaves.length t1) (.slice u2 c.polls.length t2) (.slice u3 c.points.length t3) (.slice u4 c.ctls.length t4) := by rw [hX]; exact heap_set _ _ _ _ _ _ _ HX5.out
      have hown : OwnLists (W.setCell ⟨k, 0, none⟩ (.int .i64 (wrap64 (c.own + more)))) w3.heap.size X (.slice u1 c.slaves.length t1) (.slice u2 c.polls.length t2) (.slice u3 c.points.length t3) (.slice u4 c.ctls.length t4) := by rw [hX]; exact ⟨own_set HO5.out.sl HX5.out (by decide) _, own_set HO5.out.po HX5.out (by decide) _, own_set HO5.out.pt HX5.out (by decide) _, own_set HO5.out.ct HX5.out (by decide) _⟩
      have hbb : Below w.heap.size w (W.setCell ⟨k, 0, none⟩ (.int .i64 (wrap64 (c.own + more)))) := HT5.out.below.trans (below_set _ _ _ _ _ (by have := HSZ.out.2; omega))
      have HR : Hid (ThreeIn w w3.heap.size w.heap.size (w.heap.size + 1) k c d X sl po pt ct sl2 po2 pt2 ct2 (.slice u1 c.slaves.length t1) (.slice u2 c.polls.length t2) (.slice u3 c.points.length t3) (.slice u4 c.ctls.length t4) (W.setCell ⟨k, 0, none⟩ (.int .i64 (wrap64 (c.own + more))))) := Lib.hid ⟨⟨hbb, box_set HT5.out.b1 (by have := HSZ.out.2; omega), box_set HT5.out.b2 (by have := HSZ.out.2; omega), HL0.out.1.on hbb, HL0.out.2.on hbb⟩, hbox, hown.lists⟩
      have HSX : Hid (SomeC X) := Lib.hid (by rw [hX]; exact HSOC.out)
      have HNE : Hid (sameN c X = false) := Lib.hid (sameN_ne (by rw [hX]; intro h; have h2 := congrArg Cfg.own h; exact wrap_ne HI.out HM.out h2.symm))
      clear hbox hown hbb hX HT5 HX5 HO5
      generalize (W.setCell ⟨k, 0, none⟩ (.int .i64 (wrap64 (c.own + more)))) = W1 at *
      have HRd := Lib.hid (HR.out.on ((Below.refl W1.heap.size W1).drew))
      refine wp_region_held_drew (S := fun w' => CfgBox w' w.heap.size c sl po pt ct ∧ CfgBox w' (w.heap.size + 1) d sl2 po2 pt2 ct2 ∧ CfgBox w' k X (.slice u1 c.slaves.length t1) (.slice u2 c.polls.length t2) (.slice u3 c.points.length t3) (.slice u4 c.ctls.length t4)) (by kernel_rfl) ⟨HR.out.two.b1, HR.out.two.b2, HR.out.b3⟩ (fun hHeld => ?_)
      refine wpAnyH_ready (rs := [0]) (by kernel_rfl) (by simp) ?_
      refine AllReadyH.cons (o := { dst := some 89, op := Op.call { callee := Callee.value (Operand.func 13), args := #[], argTypes := #[] }, type := 4, pos := "extra.go:106", after := #[], guard := none }) rfl (fun K hK => ?_) AllReadyH.nil
      go_simp
      refine (HFI.out _ (HG.out.on HRd.out.two.below)).mono ?_; rintro e' z0 ⟨rfl, hh⟩; have HR0 := Lib.hid (HRd.out.on hh); clear hh hHeld; simp only []
      refine hK.out _ _ ⟨HR0.out.two.b1, HR0.out.two.b2, HR0.out.b3⟩ (fun hHeld => ?_)
      clear hK K
      (try simp only [Act.put, List.setIfInBounds_toArray, List.set_cons_zero, List.set_cons_succ])
      refine wpAnyH_take (i := 1) (oi := { dst := some 90, op := Op.move (Operand.tmp 89), type := 4, pos := "extra.go:106", after := #[{ on := 0, ground := Ground.data }, { on := 0, ground := Ground.chain }], guard := none }) (v := ?_) rfl (by kernel_rfl) (by kernel_rfl) (by kernel_rfl) (fun _ _ _ h => h) (Or.inl ⟨by rfl, ?_⟩) hHeld ?_
      rotate_left
      · (intro w hSw; (try dsimp only at hSw); go_simp; try with_reducible rfl)
      (try simp only [Act.put, List.setIfInBounds_toArray, List.set_cons_zero, List.set_cons_succ])
      refine wpAnyH_take (i := 2) (oi := { dst := some 91, op := Op.load 28 (Operand.tmp 4), type := 28, pos := "extra.go:106", after := #[{ on := 1, ground := Ground.guard }], guard := some (1, true) }) (v := cfgV c sl po pt ct) rfl (by kernel_rfl) (by kernel_rfl) (by kernel_rfl) (fun _ _ _ h => h) (yl28 (by rfl) _ rfl w.heap.size rfl c sl po pt ct (fun _ h => h.1)) hHeld ?_
      (try simp only [Act.put, List.setIfInBounds_toArray, List.set_cons_zero, List.set_cons_succ])
      refine wpAnyH_take (i := 3) (oi := { dst := some 92, op := Op.load 28 (Operand.tmp 9), type := 28, pos := "extra.go:106", after := #[{ on := 1, ground := Ground.guard }], guard := some (1, true) }) (v := cfgV X (.slice u1 c.slaves.length t1) (.slice u2 c.polls.length t2) (.slice u3 c.points.length t3) (.slice u4 c.ctls.length t4)) rfl (by kernel_rfl) (by kernel_rfl) (by kernel_rfl) (fun _ _ _ h => h) (yl28 (by rfl) _ rfl k rfl X (.slice u1 c.slaves.length t1) (.slice u2 c.polls.length t2) (.slice u3 c.points.length t3) (.slice u4 c.ctls.length t4) (fun _ h => h.2.2)) hHeld ?_
      (try simp only [Act.put, List.setIfInBounds_toArray, List.set_cons_zero, List.set_cons_succ])
      refine wpAnyH_ready (rs := [4]) (by kernel_rfl) (by simp) ?_
      refine AllReadyH.cons (o := { dst := some 93, op := Op.call { callee := Callee.value (Operand.func 32), args := #[Operand.tmp 91, Operand.tmp 92], argTypes := #[28, 28] }, type := 4, pos := "extra.go:106", after := #[{ on := 2, ground := Ground.data }, { on := 3, ground := Ground.data }, { on := 1, ground := Ground.chain }, { on := 1, ground := Ground.guard }], guard := some (1, true) }) rfl (fun K hK => ?_) AllReadyH.nil
      go_simp
      refine (same_any c X _ _ _ _ _ _ _ _ _ HR0.out.two.l1 HR0.out.l3 HSOC.out HSX.out).mono ?_; rintro e' z1 ⟨rfl, hh⟩; have HR1 := Lib.hid (HR0.out.on hh); clear hh hHeld; rw [HNE.out]; simp only []
      refine hK.out _ _ ⟨HR1.out.two.b1, HR1.out.two.b2, HR1.out.b3⟩ (fun hHeld => ?_)
      clear hK K
      (try simp only [Act.put, List.setIfInBounds_toArray, List.set_cons_zero, List.set_cons_succ])
      refine wpAnyH_take (i := 5) (oi := { dst := some 94, op := Op.unOp UnOp.not 4 (Operand.tmp 93), type := 4, pos := "extra.go:106", after := #[{ on := 4, ground := Ground.data }, { on := 1, ground := Ground.guard }], guard := some (1, true) }) (v := ?_) rfl (by kernel_rfl) (by kernel_rfl) (by kernel_rfl) (fun _ _ _ h => h) (Or.inl ⟨by rfl, ?_⟩) hHeld ?_
      rotate_left
      · (intro w hSw; (try dsimp only at hSw); go_simp; try with_reducible rfl)
      (try simp only [Act.put, List.setIfInBounds_toArray, List.set_cons_zero, List.set_cons_succ])
      refine wpAnyH_take (i := 6) (oi := { dst := some 95, op := Op.pick (Operand.tmp 90) (Operand.tmp 94) (Operand.const (Value.bool false)), type := 4, pos := "extra.go:106", after := #[{ on := 1, ground := Ground.data }, { on := 5, ground := Ground.data }], guard := none }) (v := ?_) rfl (by kernel_rfl) (by kernel_rfl) (by kernel_rfl) (fun _ _ _ h => h) (Or.inl ⟨by rfl, ?_⟩) hHeld ?_
      rotate_left
      · (intro w hSw; (try dsimp only at hSw); go_simp; try with_reducible rfl)
      (try simp only [Act.put, List.setIfInBounds_toArray, List.set_cons_zero, List.set_cons_succ])
      refine wpAnyH_take (i := 7) (oi := { dst := some 96, op := Op.move (Operand.tmp 95), type := 4, pos := "extra.go:106", after := #[{ on := 6, ground := Ground.data }, { on := 4, ground := Ground.chain }], guard := none }) (v := ?_) rfl (by kernel_rfl) (by kernel_rfl) (by kernel_rfl) (fun _ _ _ h => h) (Or.inl ⟨by rfl, ?_⟩) hHeld ?_
      rotate_left
      · (intro w hSw; (try dsimp only at hSw); go_simp; try with_reducible rfl)
      (try simp only [Act.put, List.setIfInBounds_toArray, List.set_cons_zero, List.set_cons_succ])
      refine wpAnyH_take (i := 8) (oi := { dst := some 97, op := Op.load 28 (Operand.tmp 9), type := 28, pos := "extra.go:106", after := #[{ on := 7, ground := Ground.guard }], guard := some (7, true) }) (v := cfgV X (.slice u1 c.slaves.length t1) (.slice u2 c.polls.length t2) (.slice u3 c.points.length t3) (.slice u4 c.ctls.length t4)) rfl (by kernel_rfl) (by kernel_rfl) (by kernel_rfl) (fun _ _ _ h => h) (yl28 (by rfl) _ rfl k rfl X (.slice u1 c.slaves.length t1) (.slice u2 c.polls.length t2) (.slice u3 c.points.length t3) (.slice u4 c.ctls.length t4) (fun _ h => h.2.2)) hHeld ?_
      (try simp only [Act.put, List.setIfInBounds_toArray, List.set_cons_zero, List.set_cons_succ])
      refine wpAnyH_take (i := 9) (oi := { dst := some 98, op := Op.load 28 (Operand.tmp 4), type := 28, pos := "extra.go:106", after := #[{ on := 7, ground := Ground.guard }], guard := some (7, true) }) (v := cfgV c sl po pt ct) rfl (by kernel_rfl) (by kernel_rfl) (by kernel_rfl) (fun _ _ _ h => h) (yl28 (by rfl) _ rfl w.heap.size rfl c sl po pt ct (fun _ h => h.1)) hHeld ?_
      (try simp only [Act.put, List.setIfInBounds_toArray, List.set_cons_zero, List.set_cons_succ])
      refine wpAnyH_ready (rs := [10]) (by kernel_rfl) (by simp) ?_
      refine AllReadyH.cons (o := { dst := some 99, op := Op.call { callee := Callee.value (Operand.func 32), args := #[Operand.tmp 97, Operand.tmp 98], argTypes := #[28, 28] }, type := 4, pos := "extra.go:106", after := #[{ on := 8, ground := Ground.data }, { on := 9, ground := Ground.data }, { on := 7, ground := Ground.chain }, { on := 7, ground := Ground.guard }], guard := some (7, true) }) rfl (fun K hK => ?_) AllReadyH.nil
      go_simp
      refine (same_any X c _ _ _ _ _ _ _ _ _ HR1.out.l3 HR1.out.two.l1 HSX.out HSOC.out).mono ?_; rintro e' z2 ⟨rfl, hh⟩; have HR2 := Lib.hid (HR1.out.on hh); clear hh hHeld; rw [sameN_comm X c, HNE.out]; simp only []
      refine hK.out _ _ ⟨HR2.out.two.b1, HR2.out.two.b2, HR2.out.b3⟩ (fun hHeld => ?_)
      clear hK K
      (try simp only [Act.put, List.setIfInBounds_toArray, List.set_cons_zero, List.set_cons_succ])
      refine wpAnyH_take (i := 11) (oi := { dst := some 100, op := Op.unOp UnOp.not 4 (Operand.tmp 99), type := 4, pos := "extra.go:106", after := #[{ on := 10, ground := Ground.data }, { on := 7, ground := Ground.guard }], guard := some (7, true) }) (v := ?_) rfl (by kernel_rfl) (by kernel_rfl) (by kernel_rfl) (fun _ _ _ h => h) (Or.inl ⟨by rfl, ?_⟩) hHeld ?_
      rotate_left
      · (intro w hSw; (try dsimp only at hSw); go_simp; try with_reducible rfl)
      (try simp only [Act.put, List.setIfInBounds_toArray, List.set_cons_zero, List.set_cons_succ])
      refine wpAnyH_take (i := 12) (oi := { dst := some 101, op := Op.pick (Operand.tmp 96) (Operand.tmp 100) (Operand.const (Value.bool false)), type := 4, pos := "extra.go:106", after := #[{ on := 7, ground := Ground.data }, { on := 11, ground := Ground.data }], guard := none }) (v := ?_) rfl (by kernel_rfl) (by kernel_rfl) (by kernel_rfl) (fun _ _ _ h => h) (Or.inl ⟨by rfl, ?_⟩) hHeld ?_
      rotate_left
      · (intro w hSw; (try dsimp only at hSw); go_simp; try with_reducible rfl)
      (try simp only [Act.put, List.setIfInBounds_toArray, List.set_cons_zero, List.set_cons_succ])
      refine wpAnyH_take (i := 13) (oi := { dst := some 102, op := Op.move (Operand.tmp 101), type := 4, pos := "extra.go:106", after := #[{ on := 12, ground := Ground.data }, { on := 10, ground := Ground.chain }], guard := none }) (v := ?_) rfl (by kernel_rfl) (by kernel_rfl) (by kernel_rfl) (fun _ _ _ h => h) (Or.inl ⟨by rfl, ?_⟩) hHeld ?_
      rotate_left
      · (intro w hSw; (try dsimp only at hSw); go_simp; try with_reducible rfl)
      (try simp only [Act.put, List.setIfInBounds_toArray, List.set_cons_zero, List.set_cons_succ])
      refine wpAnyH_take (i := 14) (oi := { dst := some 103, op := Op.load 28 (Operand.tmp 4), type := 28, pos := "extra.go:106", after := #[{ on := 13, ground := Ground.guard }], guard := some (13, true) }) (v := cfgV c sl po pt ct) rfl (by kernel_rfl) (by kernel_rfl) (by kernel_rfl) (fun _ _ _ h => h) (yl28 (by rfl) _ rfl w.heap.size rfl c sl po pt ct (fun _ h => h.1)) hHeld ?_
      (try simp only [Act.put, List.setIfInBounds_toArray, List.set_cons_zero, List.set_cons_succ])
      refine wpAnyH_take (i := 15) (oi := { dst := some 104, op := Op.load 28 (Operand.tmp 5), type := 28, pos := "extra.go:106", after := #[{ on := 13, ground := Ground.guard }], guard := some (13, true) }) (v := cfgV d sl2 po2 pt2 ct2) rfl (by kernel_rfl) (by kernel_rfl) (by kernel_rfl) (fun _ _ _ h => h) (yl28 (by rfl) _ rfl (w.heap.size + 1) rfl d sl2 po2 pt2 ct2 (fun _ h => h.2.1)) hHeld ?_
      (try simp only [Act.put, List.setIfInBounds_toArray, List.set_cons_zero, List.set_cons_succ])
      refine wpAnyH_take (i := 17) (oi := { dst := some 106, op := Op.load 28 (Operand.tmp 5), type := 28, pos := "extra.go:106", after := #[{ on := 13, ground := Ground.guard }], guard := some (13, true) }) (v := cfgV d sl2 po2 pt2 ct2) rfl (by kernel_rfl) (by kernel_rfl) (by kernel_rfl) (fun _ _ _ h => h) (yl28 (by rfl) _ rfl (w.heap.size + 1) rfl d sl2 po2 pt2 ct2 (fun _ h => h.2.1)) hHeld ?_
      (try simp only [Act.put, List.setIfInBounds_toArray, List.set_cons_zero, List.set_cons_succ])
      refine wpAnyH_take (i := 18) (oi := { dst := some 107, op := Op.load 28 (Operand.tmp 4), type := 28, pos := "extra.go:106", after := #[{ on := 13, ground := Ground.guard }], guard := some (13, true) }) (v := cfgV c sl po pt ct) rfl (by kernel_rfl) (by kernel_rfl) (by kernel_rfl) (fun _ _ _ h => h) (yl28 (by rfl) _ rfl w.heap.size rfl c sl po pt ct (fun _ h => h.1)) hHeld ?_
      (try simp only [Act.put, List.setIfInBounds_toArray, List.set_cons_zero, List.set_cons_succ])
      refine wpAnyH_ready (rs := [16]) (by kernel_rfl) (by simp) ?_
      refine AllReadyH.cons (o := { dst := some 105, op := Op.call { callee := Callee.value (Operand.func 32), args := #[Operand.tmp 103, Operand.tmp 104], argTypes := #[28, 28] }, type := 4, pos := "extra.go:106", after := #[{ on := 14, ground := Ground.data }, { on := 15, ground := Ground.data }, { on := 13, ground := Ground.chain }, { on := 13, ground := Ground.guard }], guard := some (13, true) }) rfl (fun K hK => ?_) AllReadyH.nil
      go_simp
      refine (same_any c d _ _ _ _ _ _ _ _ _ HR2.out.two.l1 HR2.out.two.l2 HSOC.out HSO2.out).mono ?_; rintro e' z3 ⟨rfl, hh⟩; have HR3 := Lib.hid (HR2.out.on hh); clear hh hHeld; simp only []
      refine hK.out _ _ ⟨HR3.out.two.b1, HR3.out.two.b2, HR3.out.b3⟩ (fun hHeld => ?_)
      clear hK K
      (try simp only [Act.put, List.setIfInBounds_toArray, List.set_cons_zero, List.set_cons_succ])
      refine wpAnyH_ready (rs := [19]) (by kernel_rfl) (by simp) ?_
      refine AllReadyH.cons (o := { dst := some 108, op := Op.call { callee := Callee.value (Operand.func 32), args := #[Operand.tmp 106, Operand.tmp 107], argTypes := #[28, 28] }, type := 4, pos := "extra.go:106", after := #[{ on := 17, ground := Ground.data }, { on := 18, ground := Ground.data }, { on := 16, ground := Ground.chain }, { on := 13, ground := Ground.guard }], guard := some (13, true) }) rfl (fun K hK => ?_) AllReadyH.nil
      go_simp
      refine (same_any d c _ _ _ _ _ _ _ _ _ HR3.out.two.l2 HR3.out.two.l1 HSO2.out HSOC.out).mono ?_; rintro e' z4 ⟨rfl, hh⟩; have HR4 := Lib.hid (HR3.out.on hh); clear hh hHeld; rw [sameN_comm d c]; simp only []
      refine hK.out _ _ ⟨HR4.out.two.b1, HR4.out.two.b2, HR4.out.b3⟩ (fun hHeld => ?_)
      clear hK K
      (try simp only [Act.put, List.setIfInBounds_toArray, List.set_cons_zero, List.set_cons_succ])
      generalize sameN c d = sb
      cases sb
      · refine wpAnyH_take (i := 20) (oi := { dst := some 109, op := Op.binOp BinOp.eql 4 (Operand.tmp 105) (Operand.tmp 108) 4, type := 4, pos := "extra.go:106", after := #[{ on := 16, ground := Ground.data }, { on := 19, ground := Ground.data }, { on := 13, ground := Ground.guard }], guard := some (13, true) }) (v := ?_) rfl (by kernel_rfl) (by kernel_rfl) (by kernel_rfl) (fun _ _ _ h => h) (Or.inl ⟨by rfl, ?_⟩) hHeld ?_
        rotate_left
        · (intro w hSw; (try dsimp only at hSw); go_simp; try with_reducible rfl)
        (try simp only [Act.put, List.setIfInBounds_toArray, List.set_cons_zero, List.set_cons_succ])
        refine wpAnyH_take (i := 21) (oi := { dst := some 110, op := Op.pick (Operand.tmp 102) (Operand.tmp 109) (Operand.const (Value.bool false)), type := 4, pos := "extra.go:106", after := #[{ on := 13, ground := Ground.data }, { on := 20, ground := Ground.data }], guard := none }) (v := ?_) rfl (by kernel_rfl) (by kernel_rfl) (by kernel_rfl) (fun _ _ _ h => h) (Or.inl ⟨by rfl, ?_⟩) hHeld ?_
        rotate_left
        · (intro w hSw; (try dsimp only at hSw); go_simp; try with_reducible rfl)
        (try simp only [Act.put, List.setIfInBounds_toArray, List.set_cons_zero, List.set_cons_succ])
        refine wpAnyH_take (i := 22) (oi := { dst := some 8, op := Op.assign (Operand.tmp 110), type := 4, pos := "extra.go:106", after := #[{ on := 21, ground := Ground.data }, { on := 19, ground := Ground.chain }, { on := 0, ground := Ground.phase }, { on := 1, ground := Ground.phase }, { on := 2, ground := Ground.phase }, { on := 3, ground := Ground.phase }, { on := 4, ground := Ground.phase }, { on := 5, ground := Ground.phase }, { on := 6, ground := Ground.phase }, { on := 7, ground := Ground.phase }, { on := 8, ground := Ground.phase }, { on := 9, ground := Ground.phase }, { on := 10, ground := Ground.phase }, { on := 11, ground := Ground.phase }, { on := 12, ground := Ground.phase }, { on := 13, ground := Ground.phase }, { on := 14, ground := Ground.phase }, { on := 15, ground := Ground.phase }, { on := 16, ground := Ground.phase }, { on := 17, ground := Ground.phase }, { on := 18, ground := Ground.phase }, { on := 19, ground := Ground.phase }, { on := 20, ground := Ground.phase }, { on := 21, ground := Ground.phase }], guard := none }) (v := ?_) rfl (by kernel_rfl) (by kernel_rfl) (by kernel_rfl) (fun _ _ _ h => h) (Or.inl ⟨by rfl, ?_⟩) hHeld ?_
        rotate_left
        · (intro w hSw; (try dsimp only at hSw); go_simp; try with_reducible rfl)
        (try simp only [Act.put, List.setIfInBounds_toArray, List.set_cons_zero, List.set_cons_succ])
        refine wpAnyH_done (by kernel_rfl) ?_ _
        go_wp2
        go_ret
        exact ⟨rfl, HR4.out.two.below⟩
      · refine wpAnyH_take (i := 20) (oi := { dst := some 109, op := Op.binOp BinOp.eql 4 (Operand.tmp 105) (Operand.tmp 108) 4, type := 4, pos := "extra.go:106", after := #[{ on := 16, ground := Ground.data }, { on := 19, ground := Ground.data }, { on := 13, ground := Ground.guard }], guard := some (13, true) }) (v := ?_) rfl (by kernel_rfl) (by kernel_rfl) (by kernel_rfl) (fun _ _ _ h => h) (Or.inl ⟨by rfl, ?_⟩) hHeld ?_
        rotate_left
        · (intro w hSw; (try dsimp only at hSw); go_simp; try with_reducible rfl)
        (try simp only [Act.put, List.setIfInBounds_toArray, List.set_cons_zero, List.set_cons_succ])
        refine wpAnyH_take (i := 21) (oi := { dst := some 110, op := Op.pick (Operand.tmp 102) (Operand.tmp 109) (Operand.const (Value.bool false)), type := 4, pos := "extra.go:106", after := #[{ on := 13, ground := Ground.data }, { on := 20, ground := Ground.data }], guard := none }) (v := ?_) rfl (by kernel_rfl) (by kernel_rfl) (by kernel_rfl) (fun _ _ _ h => h) (Or.inl ⟨by rfl, ?_⟩) hHeld ?_
        rotate_left
        · (intro w hSw; (try dsimp only at hSw); go_simp; try with_reducible rfl)
        (try simp only [Act.put, List.setIfInBounds_toArray, List.set_cons_zero, List.set_cons_succ])
        refine wpAnyH_take (i := 22) (oi := { dst := some 8, op := Op.assign (Operand.tmp 110), type := 4, pos := "extra.go:106", after := #[{ on := 21, ground := Ground.data }, { on := 19, ground := Ground.chain }, { on := 0, ground := Ground.phase }, { on := 1, ground := Ground.phase }, { on := 2, ground := Ground.phase }, { on := 3, ground := Ground.phase }, { on := 4, ground := Ground.phase }, { on := 5, ground := Ground.phase }, { on := 6, ground := Ground.phase }, { on := 7, ground := Ground.phase }, { on := 8, ground := Ground.phase }, { on := 9, ground := Ground.phase }, { on := 10, ground := Ground.phase }, { on := 11, ground := Ground.phase }, { on := 12, ground := Ground.phase }, { on := 13, ground := Ground.phase }, { on := 14, ground := Ground.phase }, { on := 15, ground := Ground.phase }, { on := 16, ground := Ground.phase }, { on := 17, ground := Ground.phase }, { on := 18, ground := Ground.phase }, { on := 19, ground := Ground.phase }, { on := 20, ground := Ground.phase }, { on := 21, ground := Ground.phase }], guard := none }) (v := ?_) rfl (by kernel_rfl) (by kernel_rfl) (by kernel_rfl) (fun _ _ _ h => h) (Or.inl ⟨by rfl, ?_⟩) hHeld ?_
        rotate_left
        · (intro w hSw; (try dsimp only at hSw); go_simp; try with_reducible rfl)
        (try simp only [Act.put, List.setIfInBounds_toArray, List.set_cons_zero, List.set_cons_succ])
        refine wpAnyH_done (by kernel_rfl) ?_ _
        go_wp2
        go_ret
        exact ⟨rfl, HR4.out.two.below⟩
    · obtain ⟨X, hX⟩ : ∃ X : Cfg, X = { c with unsol := !c.unsol } := ⟨_, rfl⟩
      have s0 := cells_of HX5.out 2 _ rfl
      have f0 : W.frozen? ⟨k, 2, none⟩ = false := frozen_of_row _ _ _ _ _ HX5.out
      go_wp2_with fail
      clear s0 f0
      have hbox : CfgBox (W.setCell ⟨k, 2, none⟩ (.bool (!c.unsol))) k X (.slice u1 c.slaves.length t1) (.slice u2 c.polls.length t2) (.slice u3 c.points.length t3) (.slice u4 c.ctls.length t4) := by rw [hX]; exact heap_set _ _ _ _ _ _ _ HX5.out
      have hown : OwnLists (W.setCell ⟨k, 2, none⟩ (.bool (!c.unsol))) w3.heap.size X (.slice u1 c.slaves.length t1) (.slice u2 c.polls.length t2) (.slice u3 c.points.length t3) (.slice u4 c.ctls.length t4) := by rw [hX]; exact ⟨own_set HO5.out.sl HX5.out (by decide) _, own_set HO5.out.po HX5.out (by decide) _, own_set HO5.out.pt HX5.out (by decide) _, own_set HO5.out.ct HX5.out (by decide) _⟩
      have hbb : Below w.heap.size w (W.setCell ⟨k, 2, none⟩ (.bool (!c.unsol))) := HT5.out.below.trans (below_set _ _ _ _ _ (by have := HSZ.out.2; omega))
      have HR : Hid (ThreeIn w w3.heap.size w.heap.size (w.heap.size + 1) k c d X sl po pt ct sl2 po2 pt2 ct2 (.slice u1 c.slaves.length t1) (.slice u2 c.polls.length t2) (.slice u3 c.points.length t3) (.slice u4 c.ctls.length t4) (W.setCell ⟨k, 2, none⟩ (.bool (!c.unsol)))) := Lib.hid ⟨⟨hbb, box_set HT5.out.b1 (by have := HSZ.out.2; omega), box_set HT5.out.b2 (by have := HSZ.out.2; omega), HL0.out.1.on hbb, HL0.out.2.on hbb⟩, hbox, hown.lists⟩
      have HSX : Hid (SomeC X) := Lib.hid (by rw [hX]; exact HSOC.out)
      have HNE : Hid (sameN c X = false) := Lib.hid (sameN_ne (by rw [hX]; intro h; have h2 := congrArg Cfg.unsol h; simp at h2))
      clear hbox hown hbb hX HT5 HX5 HO5
      generalize (W.setCell ⟨k, 2, none⟩ (.bool (!c.unsol))) = W1 at *
      have HRd := Lib.hid (HR.out.on ((Below.refl W1.heap.size W1).drew))
      refine wp_region_held_drew (S := fun w' => CfgBox w' w.heap.size c sl po pt ct ∧ CfgBox w' (w.heap.size + 1) d sl2 po2 pt2 ct2 ∧ CfgBox w' k X (.slice u1 c.slaves.length t1) (.slice u2 c.polls.length t2) (.slice u3 c.points.length t3) (.slice u4 c.ctls.length t4)) (by kernel_rfl) ⟨HR.out.two.b1, HR.out.two.b2, HR.out.b3⟩ (fun hHeld => ?_)
      refine wpAnyH_ready (rs := [0]) (by kernel_rfl) (by simp) ?_
      refine AllReadyH.cons (o := { dst := some 89, op := Op.call { callee := Callee.value (Operand.func 13), args := #[], argTypes := #[] }, type := 4, pos := "extra.go:106", after := #[], guard := none }) rfl (fun K hK => ?_) AllReadyH.nil
      go_simp
      refine (HFI.out _ (HG.out.on HRd.out.two.below)).mono ?_; rintro e' z0 ⟨rfl, hh⟩; have HR0 := Lib.hid (HRd.out.on hh); clear hh hHeld; simp only []
      refine hK.out _ _ ⟨HR0.out.two.b1, HR0.out.two.b2, HR0.out.b3⟩ (fun hHeld => ?_)
      clear hK K
      (try simp only [Act.put, List.setIfInBounds_toArray, List.set_cons_zero, List.set_cons_succ])
      refine wpAnyH_take (i := 1) (oi := { dst := some 90, op := Op.move (Operand.tmp 89), type := 4, pos := "extra.go:106", after := #[{ on := 0, ground := Ground.data }, { on := 0, ground := Ground.chain }], guard := none }) (v := ?_) rfl (by kernel_rfl) (by kernel_rfl) (by kernel_rfl) (fun _ _ _ h => h) (Or.inl ⟨by rfl, ?_⟩) hHeld ?_
      rotate_left
      · (intro w hSw; (try dsimp only at hSw); go_simp; try with_reducible rfl)
      (try simp only [Act.put, List.setIfInBounds_toArray, List.set_cons_zero, List.set_cons_succ])
      refine wpAnyH_take (i := 2) (oi := { dst := some 91, op := Op.load 28 (Operand.tmp 4), type := 28, pos := "extra.go:106", after := #[{ on := 1, ground := Ground.guard }], guard := some (1, true) }) (v := cfgV c sl po pt ct) rfl (by kernel_rfl) (by kernel_rfl) (by kernel_rfl) (fun _ _ _ h => h) (yl28 (by rfl) _ rfl w.heap.size rfl c sl po pt ct (fun _ h => h.1)) hHeld ?_
      (try simp only [Act.put, List.setIfInBounds_toArray, List.set_cons_zero, List.set_cons_succ])
      refine wpAnyH_take (i := 3) (oi := { dst := some 92, op := Op.load 28 (Operand.tmp 9), type := 28, pos := "extra.go:106", after := #[{ on := 1, ground := Ground.guard }], guard := some (1, true) }) (v := cfgV X (.slice u1 c.slaves.length t1) (.slice u2 c.polls.length t2) (.slice u3 c.points.length t3) (.slice u4 c.ctls.length t4)) rfl (by kernel_rfl) (by kernel_rfl) (by kernel_rfl) (fun _ _ _ h => h) (yl28 (by rfl) _ rfl k rfl X (.slice u1 c.slaves.length t1) (.slice u2 c.polls.length t2) (.slice u3 c.points.length t3) (.slice u4 c.ctls.length t4) (fun _ h => h.2.2)) hHeld ?_
      (try simp only [Act.put, List.setIfInBounds_toArray, List.set_cons_zero, List.set_cons_succ])
      refine wpAnyH_ready (rs := [4]) (by kernel_rfl) (by simp) ?_
      refine AllReadyH.cons (o := { dst := some 93, op := Op.call { callee := Callee.value (Operand.func 32), args := #[Operand.tmp 91, Operand.tmp 92], argTypes := #[28, 28] }, type := 4, pos := "extra.go:106", after := #[{ on := 2, ground := Ground.data }, { on := 3, ground := Ground.data }, { on := 1, ground := Ground.chain }, { on := 1, ground := Ground.guard }], guard := some (1, true) }) rfl (fun K hK => ?_) AllReadyH.nil
      go_simp
      refine (same_any c X _ _ _ _ _ _ _ _ _ HR0.out.two.l1 HR0.out.l3 HSOC.out HSX.out).mono ?_; rintro e' z1 ⟨rfl, hh⟩; have HR1 := Lib.hid (HR0.out.on hh); clear hh hHeld; rw [HNE.out]; simp only []
      refine hK.out _ _ ⟨HR1.out.two.b1, HR1.out.two.b2, HR1.out.b3⟩ (fun hHeld => ?_)
      clear hK K
      (try simp only [Act.put, List.setIfInBounds_toArray, List.set_cons_zero, List.set_cons_succ])
      refine wpAnyH_take (i := 5) (oi := { dst := some 94, op := Op.unOp UnOp.not 4 (Operand.tmp 93), type := 4, pos := "extra.go:106", after := #[{ on := 4, ground := Ground.data }, { on := 1, ground := Ground.guard }], guard := some (1, true) }) (v := ?_) rfl (by kernel_rfl) (by kernel_rfl) (by kernel_rfl) (fun _ _ _ h => h) (Or.inl ⟨by rfl, ?_⟩) hHeld ?_
      rotate_left
      · (intro w hSw; (try dsimp only at hSw); go_simp; try with_reducible rfl)
      (try simp only [Act.put, List.setIfInBounds_toArray, List.set_cons_zero, List.set_cons_succ])
      refine wpAnyH_take (i := 6) (oi := { dst := some 95, op := Op.pick (Operand.tmp 90) (Operand.tmp 94) (Operand.const (Value.bool false)), type := 4, pos := "extra.go:106", after := #[{ on := 1, ground := Ground.data }, { on := 5, ground := Ground.data }], guard := none }) (v := ?_) rfl (by kernel_rfl) (by kernel_rfl) (by kernel_rfl) (fun _ _ _ h => h) (Or.inl ⟨by rfl, ?_⟩) hHeld ?_
      rotate_left
      · (intro w hSw; (try dsimp only at hSw); go_simp; try with_reducible rfl)
      (try simp only [Act.put, List.setIfInBounds_toArray, List.set_cons_zero, List.set_cons_succ])
      refine wpAnyH_take (i := 7) (oi := { dst := some 96, op := Op.move (Operand.tmp 95), type := 4, pos := "extra.go:106", after := #[{ on := 6, ground := Ground.data }, { on := 4, ground := Ground.chain }], guard := none }) (v := ?_) rfl (by kernel_rfl) (by kernel_rfl) (by kernel_rfl) (fun _ _ _ h => h) (Or.inl ⟨by rfl, ?_⟩) hHeld ?_
      rotate_left
      · (intro w hSw; (try dsimp only at hSw); go_simp; try with_reducible rfl)
      (try simp only [Act.put, List.setIfInBounds_toArray, List.set_cons_zero, List.set_cons_succ])
      refine wpAnyH_take (i := 8) (oi := { dst := some 97, op := Op.load 28 (Operand.tmp 9), type := 28, pos := "extra.go:106", after := #[{ on := 7, ground := Ground.guard }], guard := some (7, true) }) (v := cfgV X (.slice u1 c.slaves.length t1) (.slice u2 c.polls.length t2) (.slice u3 c.points.length t3) (.slice u4 c.ctls.length t4)) rfl (by kernel_rfl) (by kernel_rfl) (by kernel_rfl) (fun _ _ _ h => h) (yl28 (by rfl) _ rfl k rfl X (.slice u1 c.slaves.length t1) (.slice u2 c.polls.length t2) (.slice u3 c.points.length t3) (.slice u4 c.ctls.length t4) (fun _ h => h.2.2)) hHeld ?_
      (try simp only [Act.put, List.setIfInBounds_toArray, List.set_cons_zero, List.set_cons_succ])
      refine wpAnyH_take (i := 9) (oi := { dst := some 98, op := Op.load 28 (Operand.tmp 4), type := 28, pos := "extra.go:106", after := #[{ on := 7, ground := Ground.guard }], guard := some (7, true) }) (v := cfgV c sl po pt ct) rfl (by kernel_rfl) (by kernel_rfl) (by kernel_rfl) (fun _ _ _ h => h) (yl28 (by rfl) _ rfl w.heap.size rfl c sl po pt ct (fun _ h => h.1)) hHeld ?_
      (try simp only [Act.put, List.setIfInBounds_toArray, List.set_cons_zero, List.set_cons_succ])
      refine wpAnyH_ready (rs := [10]) (by kernel_rfl) (by simp) ?_
      refine AllReadyH.cons (o := { dst := some 99, op := Op.call { callee := Callee.value (Operand.func 32), args := #[Operand.tmp 97, Operand.tmp 98], argTypes := #[28, 28] }, type := 4, pos := "extra.go:106", after := #[{ on := 8, ground := Ground.data }, { on := 9, ground := Ground.data }, { on := 7, ground := Ground.chain }, { on := 7, ground := Ground.guard }], guard := some (7, true) }) rfl (fun K hK => ?_) AllReadyH.nil
      go_simp
      refine (same_any X c _ _ _ _ _ _ _ _ _ HR1.out.l3 HR1.out.two.l1 HSX.out HSOC.out).mono ?_; rintro e' z2 ⟨rfl, hh⟩; have HR2 := Lib.hid (HR1.out.on hh); clear hh hHeld; rw [sameN_comm X c, HNE.out]; simp only []
      refine hK.out _ _ ⟨HR2.out.two.b1, HR2.out.two.b2, HR2.out.b3⟩ (fun hHeld => ?_)
      clear hK K
      (try simp only [Act.put, List.setIfInBounds_toArray, List.set_cons_zero, List.set_cons_succ])
      refine wpAnyH_take (i := 11) (oi := { dst := some 100, op := Op.unOp UnOp.not 4 (Operand.tmp 99), type := 4, pos := "extra.go:106", after := #[{ on := 10, ground := Ground.data }, { on := 7, ground := Ground.guard }], guard := some (7, true) }) (v := ?_) rfl (by kernel_rfl) (by kernel_rfl) (by kernel_rfl) (fun _ _ _ h => h) (Or.inl ⟨by rfl, ?_⟩) hHeld ?_
      rotate_left
      · (intro w hSw; (try dsimp only at hSw); go_simp; try with_reducible rfl)
      (try simp only [Act.put, List.setIfInBounds_toArray, List.set_cons_zero, List.set_cons_succ])
      refine wpAnyH_take (i := 12) (oi := { dst := some 101, op := Op.pick (Operand.tmp 96) (Operand.tmp 100) (Operand.const (Value.bool false)), type := 4, pos := "extra.go:106", after := #[{ on := 7, ground := Ground.data }, { on := 11, ground := Ground.data }], guard := none }) (v := ?_) rfl (by kernel_rfl) (by kernel_rfl) (by kernel_rfl) (fun _ _ _ h => h) (Or.inl ⟨by rfl, ?_⟩) hHeld ?_
      rotate_left
      · (intro w hSw; (try dsimp only at hSw); go_simp; try with_reducible rfl)
      (try simp only [Act.put, List.setIfInBounds_toArray, List.set_cons_zero, List.set_cons_succ])
      refine wpAnyH_take (i := 13) (oi := { dst := some 102, op := Op.move (Operand.tmp 101), type := 4, pos := "extra.go:106", after := #[{ on := 12, ground := Ground.data }, { on := 10, ground := Ground.chain }], guard := none }) (v := ?_) rfl (by kernel_rfl) (by kernel_rfl) (by kernel_rfl) (fun _ _ _ h => h) (Or.inl ⟨by rfl, ?_⟩) hHeld ?_
      rotate_left
      · (intro w hSw; (try dsimp only at hSw); go_simp; try with_reducible rfl)
      (try simp only [Act.put, List.setIfInBounds_toArray, List.set_cons_zero, List.set_cons_succ])
      refine wpAnyH_take (i := 14) (oi := { dst := some 103, op := Op.load 28 (Operand.tmp 4), type := 28, pos := "extra.go:106", after := #[{ on := 13, ground := Ground.guard }], guard := some (13, true) }) (v := cfgV c sl po pt ct) rfl (by kernel_rfl) (by kernel_rfl) (by kernel_rfl) (fun _ _ _ h => h) (yl28 (by rfl) _ rfl w.heap.size rfl c sl po pt ct (fun _ h => h.1)) hHeld ?_
      (try simp only [Act.put, List.setIfInBounds_toArray, List.set_cons_zero, List.set_cons_succ])
      refine wpAnyH_take (i := 15) (oi := { dst := some 104, op := Op.load 28 (Operand.tmp 5), type := 28, pos := "extra.go:106", after := #[{ on := 13, ground := Ground.guard }], guard := some (13, true) }) (v := cfgV d sl2 po2 pt2 ct2) rfl (by kernel_rfl) (by kernel_rfl) (by kernel_rfl) (fun _ _ _ h => h) (yl28 (by rfl) _ rfl (w.heap.size + 1) rfl d sl2 po2 pt2 ct2 (fun _ h => h.2.1)) hHeld ?_
      (try simp only [Act.put, List.setIfInBounds_toArray, List.set_cons_zero, List.set_cons_succ])
      refine wpAnyH_take (i := 17) (oi := { dst := some 106, op := Op.load 28 (Operand.tmp 5), type := 28, pos := "extra.go:106", after := #[{ on := 13, ground := Ground.guard }], guard := some (13, true) }) (v := cfgV d sl2 po2 pt2 ct2) rfl (by kernel_rfl) (by kernel_rfl) (by kernel_rfl) (fun _ _ _ h => h) (yl28 (by rfl) _ rfl (w.heap.size + 1) rfl d sl2 po2 pt2 ct2 (fun _ h => h.2.1)) hHeld ?_
      (try simp only [Act.put, List.setIfInBounds_toArray, List.set_cons_zero, List.set_cons_succ])
      refine wpAnyH_take (i := 18) (oi := { dst := some 107, op := Op.load 28 (Operand.tmp 4), type := 28, pos := "extra.go:106", after := #[{ on := 13, ground := Ground.guard }], guard := some (13, true) }) (v := cfgV c sl po pt ct) rfl (by kernel_rfl) (by kernel_rfl) (by kernel_rfl) (fun _ _ _ h => h) (yl28 (by rfl) _ rfl w.heap.size rfl c sl po pt ct (fun _ h => h.1)) hHeld ?_
      (try simp only [Act.put, List.setIfInBounds_toArray, List.set_cons_zero, List.set_cons_succ])
      refine wpAnyH_ready (rs := [16]) (by kernel_rfl) (by simp) ?_
      refine AllReadyH.cons (o := { dst := some 105, op := Op.call { callee := Callee.value (Operand.func 32), args := #[Operand.tmp 103, Operand.tmp 104], argTypes := #[28, 28] }, type := 4, pos := "extra.go:106", after := #[{ on := 14, ground := Ground.data }, { on := 15, ground := Ground.data }, { on := 13, ground := Ground.chain }, { on := 13, ground := Ground.guard }], guard := some (13, true) }) rfl (fun K hK => ?_) AllReadyH.nil
      go_simp
      refine (same_any c d _ _ _ _ _ _ _ _ _ HR2.out.two.l1 HR2.out.two.l2 HSOC.out HSO2.out).mono ?_; rintro e' z3 ⟨rfl, hh⟩; have HR3 := Lib.hid (HR2.out.on hh); clear hh hHeld; simp only []
      refine hK.out _ _ ⟨HR3.out.two.b1, HR3.out.two.b2, HR3.out.b3⟩ (fun hHeld => ?_)
      clear hK K
      (try simp only [Act.put, List.setIfInBounds_toArray, List.set_cons_zero, List.set_cons_succ])
      refine wpAnyH_ready (rs := [19]) (by kernel_rfl) (by simp) ?_
      refine AllReadyH.cons (o := { dst := some 108, op := Op.call { callee := Callee.value (Operand.func 32), args := #[Operand.tmp 106, Operand.tmp 107], argTypes := #[28, 28] }, type := 4, pos := "extra.go:106", after := #[{ on := 17, ground := Ground.data }, { on := 18, ground := Ground.data }, { on := 16, ground := Ground.chain }, { on := 13, ground := Ground.guard }], guard := some (13, true) }) rfl (fun K hK => ?_) AllReadyH.nil
      go_simp
      refine (same_any d c _ _ _ _ _ _ _ _ _ HR3.out.two.l2 HR3.out.two.l1 HSO2.out HSOC.out).mono ?_; rintro e' z4 ⟨rfl, hh⟩; have HR4 := Lib.hid (HR3.out.on hh); clear hh hHeld; rw [sameN_comm d c]; simp only []
      refine hK.out _ _ ⟨HR4.out.two.b1, HR4.out.two.b2, HR4.out.b3⟩ (fun hHeld => ?_)
      clear hK K
      (try simp only [Act.put, List.setIfInBounds_toArray, List.set_cons_zero, List.set_cons_succ])
      generalize sameN c d = sb
      cases sb
      · refine wpAnyH_take (i := 20) (oi := { dst := some 109, op := Op.binOp BinOp.eql 4 (Operand.tmp 105) (Operand.tmp 108) 4, type := 4, pos := "extra.go:106", after := #[{ on := 16, ground := Ground.data }, { on := 19, ground := Ground.data }, { on := 13, ground := Ground.guard }], guard := some (13, true) }) (v := ?_) rfl (by kernel_rfl) (by kernel_rfl) (by kernel_rfl) (fun _ _ _ h => h) (Or.inl ⟨by rfl, ?_⟩) hHeld ?_
        rotate_left
        · (intro w hSw; (try dsimp only at hSw); go_simp; try with_reducible rfl)
        (try simp only [Act.put, List.setIfInBounds_toArray, List.set_cons_zero, List.set_cons_succ])
        refine wpAnyH_take (i := 21) (oi := { dst := some 110, op := Op.pick (Operand.tmp 102) (Operand.tmp 109) (Operand.const (Value.bool false)), type := 4, pos := "extra.go:106", after := #[{ on := 13, ground := Ground.data }, { on := 20, ground := Ground.data }], guard := none }) (v := ?_) rfl (by kernel_rfl) (by kernel_rfl) (by kernel_rfl) (fun _ _ _ h => h) (Or.inl ⟨by rfl, ?_⟩) hHeld ?_
        rotate_left
        · (intro w hSw; (try dsimp only at hSw); go_simp; try with_reducible rfl)
        (try simp only [Act.put, List.setIfInBounds_toArray, List.set_cons_zero, List.set_cons_succ])
        refine wpAnyH_take (i := 22) (oi := { dst := some 8, op := Op.assign (Operand.tmp 110), type := 4, pos := "extra.go:106", after := #[{ on := 21, ground := Ground.data }, { on := 19, ground := Ground.chain }, { on := 0, ground := Ground.phase }, { on := 1, ground := Ground.phase }, { on := 2, ground := Ground.phase }, { on := 3, ground := Ground.phase }, { on := 4, ground := Ground.phase }, { on := 5, ground := Ground.phase }, { on := 6, ground := Ground.phase }, { on := 7, ground := Ground.phase }, { on := 8, ground := Ground.phase }, { on := 9, ground := Ground.phase }, { on := 10, ground := Ground.phase }, { on := 11, ground := Ground.phase }, { on := 12, ground := Ground.phase }, { on := 13, ground := Ground.phase }, { on := 14, ground := Ground.phase }, { on := 15, ground := Ground.phase }, { on := 16, ground := Ground.phase }, { on := 17, ground := Ground.phase }, { on := 18, ground := Ground.phase }, { on := 19, ground := Ground.phase }, { on := 20, ground := Ground.phase }, { on := 21, ground := Ground.phase }], guard := none }) (v := ?_) rfl (by kernel_rfl) (by kernel_rfl) (by kernel_rfl) (fun _ _ _ h => h) (Or.inl ⟨by rfl, ?_⟩) hHeld ?_
        rotate_left
        · (intro w hSw; (try dsimp only at hSw); go_simp; try with_reducible rfl)
        (try simp only [Act.put, List.setIfInBounds_toArray, List.set_cons_zero, List.set_cons_succ])
        refine wpAnyH_done (by kernel_rfl) ?_ _
        go_wp2
        go_ret
        exact ⟨rfl, HR4.out.two.below⟩
      · refine wpAnyH_take (i := 20) (oi := { dst := some 109, op := Op.binOp BinOp.eql 4 (Operand.tmp 105) (Operand.tmp 108) 4, type := 4, pos := "extra.go:106", after := #[{ on := 16, ground := Ground.data }, { on := 19, ground := Ground.data }, { on := 13, ground := Ground.guard }], guard := some (13, true) }) (v := ?_) rfl (by kernel_rfl) (by kernel_rfl) (by kernel_rfl) (fun _ _ _ h => h) (Or.inl ⟨by rfl, ?_⟩) hHeld ?_
        rotate_left
        · (intro w hSw; (try dsimp only at hSw); go_simp; try with_reducible rfl)
        (try simp only [Act.put, List.setIfInBounds_toArray, List.set_cons_zero, List.set_cons_succ])
        refine wpAnyH_take (i := 21) (oi := { dst := some 110, op := Op.pick (Operand.tmp 102) (Operand.tmp 109) (Operand.const (Value.bool false)), type := 4, pos := "extra.go:106", after := #[{ on := 13, ground := Ground.data }, { on := 20, ground := Ground.data }], guard := none }) (v := ?_) rfl (by kernel_rfl) (by kernel_rfl) (by kernel_rfl) (fun _ _ _ h => h) (Or.inl ⟨by rfl, ?_⟩) hHeld ?_
        rotate_left
        · (intro w hSw; (try dsimp only at hSw); go_simp; try with_reducible rfl)
        (try simp only [Act.put, List.setIfInBounds_toArray, List.set_cons_zero, List.set_cons_succ])
        refine wpAnyH_take (i := 22) (oi := { dst := some 8, op := Op.assign (Operand.tmp 110), type := 4, pos := "extra.go:106", after := #[{ on := 21, ground := Ground.data }, { on := 19, ground := Ground.chain }, { on := 0, ground := Ground.phase }, { on := 1, ground := Ground.phase }, { on := 2, ground := Ground.phase }, { on := 3, ground := Ground.phase }, { on := 4, ground := Ground.phase }, { on := 5, ground := Ground.phase }, { on := 6, ground := Ground.phase }, { on := 7, ground := Ground.phase }, { on := 8, ground := Ground.phase }, { on := 9, ground := Ground.phase }, { on := 10, ground := Ground.phase }, { on := 11, ground := Ground.phase }, { on := 12, ground := Ground.phase }, { on := 13, ground := Ground.phase }, { on := 14, ground := Ground.phase }, { on := 15, ground := Ground.phase }, { on := 16, ground := Ground.phase }, { on := 17, ground := Ground.phase }, { on := 18, ground := Ground.phase }, { on := 19, ground := Ground.phase }, { on := 20, ground := Ground.phase }, { on := 21, ground := Ground.phase }], guard := none }) (v := ?_) rfl (by kernel_rfl) (by kernel_rfl) (by kernel_rfl) (fun _ _ _ h => h) (Or.inl ⟨by rfl, ?_⟩) hHeld ?_
        rotate_left
        · (intro w hSw; (try dsimp only at hSw); go_simp; try with_reducible rfl)
        (try simp only [Act.put, List.setIfInBounds_toArray, List.set_cons_zero, List.set_cons_succ])
        refine wpAnyH_done (by kernel_rfl) ?_ _
        go_wp2
        go_ret
        exact ⟨rfl, HR4.out.two.below⟩
    · obtain ⟨X, hX⟩ : ∃ X : Cfg, X = { c with r1 := wrap64 (c.r1 + more) } := ⟨_, rfl⟩
      have s0 := cells_of HX5.out 11 _ rfl
      have f0 : W.frozen? ⟨k, 11, none⟩ = false := frozen_of_row _ _ _ _ _ HX5.out
      go_wp2_with fail
      clear s0 f0
      have hbox : CfgBox (W.setCell ⟨k, 11, none⟩ (.int .i64 (wrap64 (c.r1 + more)))) k X (.slice u1 c.slaves.length t1) (.slice u2 c.polls.length t2) (.slice u3 c.points.length t3) (.slice u4 c.ctls.length t4) := by rw [hX]; exact heap_set _ _ _ _ _ _ _ HX5.out
      have hown : OwnLists (W.setCell ⟨k, 11, none⟩ (.int .i64 (wrap64 (c.r1 + more)))) w3.heap.size X (.slice u1 c.slaves.length t1) (.slice u2 c.polls.length t2) (.slice u3 c.points.length t3) (.slice u4 c.ctls.length t4) := by rw [hX]; exact ⟨own_set HO5.out.sl HX5.out (by decide) _, own_set HO5.out.po HX5.out (by decide) _, own_set HO5.out.pt HX5.out (by decide) _, own_set HO5.out.ct HX5.out (by decide) _⟩
      have hbb : Below w.heap.size w (W.setCell ⟨k, 11, none⟩ (.int .i64 (wrap64 (c.r1 + more)))) := HT5.out.below.trans (below_set _ _ _ _ _ (by have := HSZ.out.2; omega))
      have HR : Hid (ThreeIn w w3.heap.size w.heap.size (w.heap.size + 1) k c d X sl po pt ct sl2 po2 pt2 ct2 (.slice u1 c.slaves.length t1) (.slice u2 c.polls.length t2) (.slice u3 c.points.length t3) (.slice u4 c.ctls.length t4) (W.setCell ⟨k, 11, none⟩ (.int .i64 (wrap64 (c.r1 + more))))) := Lib.hid ⟨⟨hbb, box_set HT5.out.b1 (by have := HSZ.out.2; omega), box_set HT5.out.b2 (by have := HSZ.out.2; omega), HL0.out.1.on hbb, HL0.out.2.on hbb⟩, hbox, hown.lists⟩
      have HSX : Hid (SomeC X) := Lib.hid (by rw [hX]; exact HSOC.out)
      have HNE : Hid (sameN c X = false) := Lib.hid (sameN_ne (by rw [hX]; intro h; have h2 := congrArg Cfg.r1 h; exact wrap_ne HI.out HM.out h2.symm))
      clear hbox hown hbb hX HT5 HX5 HO5
      generalize (W.setCell ⟨k, 11, none⟩ (.int .i64 (wrap64 (c.r1 + more)))) = W1 at *
      have HRd := Lib.hid (HR.out.on ((Below.refl W1.heap.size W1).drew))
      refine wp_region_held_drew (S := fun w' => CfgBox w' w.heap.size c sl po pt ct ∧ CfgBox w' (w.heap.size + 1) d sl2 po2 pt2 ct2 ∧ CfgBox w' k X (.slice u1 c.slaves.length t1) (.slice u2 c.polls.length t2) (.slice u3 c.points.length t3) (.slice u4 c.ctls.length t4)) (by kernel_rfl) ⟨HR.out.two.b1, HR.out.two.b2, HR.out.b3⟩ (fun hHeld => ?_)
      refine wpAnyH_ready (rs := [0]) (by kernel_rfl) (by simp) ?_
      refine AllReadyH.cons (o := { dst := some 89, op := Op.call { callee := Callee.value (Operand.func 13), args := #[], argTypes := #[] }, type := 4, pos := "extra.go:106", after := #[], guard := none }) rfl (fun K hK => ?_) AllReadyH.nil
      go_simp
      refine (HFI.out _ (HG.out.on HRd.out.two.below)).mono ?_; rintro e' z0 ⟨rfl, hh⟩; have HR0 := Lib.hid (HRd.out.on hh); clear hh hHeld; simp only []
      refine hK.out _ _ ⟨HR0.out.two.b1, HR0.out.two.b2, HR0.out.b3⟩ (fun hHeld => ?_)
      clear hK K
      (try simp only [Act.put, List.setIfInBounds_toArray, List.set_cons_zero, List.set_cons_succ])
      refine wpAnyH_take (i := 1) (oi := { dst := some 90, op := Op.move (Operand.tmp 89), type := 4, pos := "extra.go:106", after := #[{ on := 0, ground := Ground.data }, { on := 0, ground := Ground.chain }], guard := none }) (v := ?_) rfl (by kernel_rfl) (by kernel_rfl) (by kernel_rfl) (fun _ _ _ h => h) (Or.inl ⟨by rfl, ?_⟩) hHeld ?_
      rotate_left
      · (intro w hSw; (try dsimp only at hSw); go_simp; try with_reducible rfl)
      (try simp only [Act.put, List.setIfInBounds_toArray, List.set_cons_zero, List.set_cons_succ])
      refine wpAnyH_take (i := 2) (oi := { dst := some 91, op := Op.load 28 (Operand.tmp 4), type := 28, pos := "extra.go:106", after := #[{ on := 1, ground := Ground.guard }], guard := some (1, true) }) (v := cfgV c sl po pt ct) rfl (by kernel_rfl) (by kernel_rfl) (by kernel_rfl) (fun _ _ _ h => h) (yl28 (by rfl) _ rfl w.heap.size rfl c sl po pt ct (fun _ h => h.1)) hHeld ?_
      (try simp only [Act.put, List.setIfInBounds_toArray, List.set_cons_zero, List.set_cons_succ])
      refine wpAnyH_take (i := 3) (oi := { dst := some 92, op := Op.load 28 (Operand.tmp 9), type := 28, pos := "extra.go:106", after := #[{ on := 1, ground := Ground.guard }], guard := some (1, true) }) (v := cfgV X (.slice u1 c.slaves.length t1) (.slice u2 c.polls.length t2) (.slice u3 c.points.length t3) (.slice u4 c.ctls.length t4)) rfl (by kernel_rfl) (by kernel_rfl) (by kernel_rfl) (fun _ _ _ h => h) (yl28 (by rfl) _ rfl k rfl X (.slice u1 c.slaves.length t1) (.slice u2 c.polls.length t2) (.slice u3 c.points.length t3) (.slice u4 c.ctls.length t4) (fun _ h => h.2.2)) hHeld ?_
      (try simp only [Act.put, List.setIfInBounds_toArray, List.set_cons_zero, List.set_cons_succ])
      refine wpAnyH_ready (rs := [4]) (by kernel_rfl) (by simp) ?_
      refine AllReadyH.cons (o := { dst := some 93, op := Op.call { callee := Callee.value (Operand.func 32), args := #[Operand.tmp 91, Operand.tmp 92], argTypes := #[28, 28] }, type := 4, pos := "extra.go:106", after := #[{ on := 2, ground := Ground.data }, { on := 3, ground := Ground.data }, { on := 1, ground := Ground.chain }, { on := 1, ground := Ground.guard }], guard := some (1, true) }) rfl (fun K hK => ?_) AllReadyH.nil
      go_simp
      refine (same_any c X _ _ _ _ _ _ _ _ _ HR0.out.two.l1 HR0.out.l3 HSOC.out HSX.out).mono ?_; rintro e' z1 ⟨rfl, hh⟩; have HR1 := Lib.hid (HR0.out.on hh); clear hh hHeld; rw [HNE.out]; simp only []
      refine hK.out _ _ ⟨HR1.out.two.b1, HR1.out.two.b2, HR1.out.b3⟩ (fun hHeld => ?_)
      clear hK K
      (try simp only [Act.put, List.setIfInBounds_toArray, List.set_cons_zero, List.set_cons_succ])
      refine wpAnyH_take (i := 5) (oi := { dst := some 94, op := Op.unOp UnOp.not 4 (Operand.tmp 93), type := 4, pos := "extra.go:106", after := #[{ on := 4, ground := Ground.data }, { on := 1, ground := Ground.guard }], guard := some (1, true) }) (v := ?_) rfl (by kernel_rfl) (by kernel_rfl) (by kernel_rfl) (fun _ _ _ h => h) (Or.inl ⟨by rfl, ?_⟩) hHeld ?_
      rotate_left
      · (intro w hSw; (try dsimp only at hSw); go_simp; try with_reducible rfl)
      (try simp only [Act.put, List.setIfInBounds_toArray, List.set_cons_zero, List.set_cons_succ])
      refine wpAnyH_take (i := 6) (oi := { dst := some 95, op := Op.pick (Operand.tmp 90) (Operand.tmp 94) (Operand.const (Value.bool false)), type := 4, pos := "extra.go:106", after := #[{ on := 1, ground := Ground.data }, { on := 5, ground := Ground.data }], guard := none }) (v := ?_) rfl (by kernel_rfl) (by kernel_rfl) (by kernel_rfl) (fun _ _ _ h => h) (Or.inl ⟨by rfl, ?_⟩) hHeld ?_
      rotate_left
      · (intro w hSw; (try dsimp only at hSw); go_simp; try with_reducible rfl)
      (try simp only [Act.put, List.setIfInBounds_toArray, List.set_cons_zero, List.set_cons_succ])
      refine wpAnyH_take (i := 7) (oi := { dst := some 96, op := Op.move (Operand.tmp 95), type := 4, pos := "extra.go:106", after := #[{ on := 6, ground := Ground.data }, { on := 4, ground := Ground.chain }], guard := none }) (v := ?_) rfl (by kernel_rfl) (by kernel_rfl) (by kernel_rfl) (fun _ _ _ h => h) (Or.inl ⟨by rfl, ?_⟩) hHeld ?_
      rotate_left
      · (intro w hSw; (try dsimp only at hSw); go_simp; try with_reducible rfl)
      (try simp only [Act.put, List.setIfInBounds_toArray, List.set_cons_zero, List.set_cons_succ])
      refine wpAnyH_take (i := 8) (oi := { dst := some 97, op := Op.load 28 (Operand.tmp 9), type := 28, pos := "extra.go:106", after := #[{ on := 7, ground := Ground.guard }], guard := some (7, true) }) (v := cfgV X (.slice u1 c.slaves.length t1) (.slice u2 c.polls.length t2) (.slice u3 c.points.length t3) (.slice u4 c.ctls.length t4)) rfl (by kernel_rfl) (by kernel_rfl) (by kernel_rfl) (fun _ _ _ h => h) (yl28 (by rfl) _ rfl k rfl X (.slice u1 c.slaves.length t1) (.slice u2 c.polls.length t2) (.slice u3 c.points.length t3) (.slice u4 c.ctls.length t4) (fun _ h => h.2.2)) hHeld ?_
      (try simp only [Act.put, List.setIfInBounds_toArray, List.set_cons_zero, List.set_cons_succ])
      refine wpAnyH_take (i := 9) (oi := { dst := some 98, op := Op.load 28 (Operand.tmp 4), type := 28, pos := "extra.go:106", after := #[{ on := 7, ground := Ground.guard }], guard := some (7, true) }) (v := cfgV c sl po pt ct) rfl (by kernel_rfl) (by kernel_rfl) (by kernel_rfl) (fun _ _ _ h => h) (yl28 (by rfl) _ rfl w.heap.size rfl c sl po pt ct (fun _ h => h.1)) hHeld ?_
      (try simp only [Act.put, List.setIfInBounds_toArray, List.set_cons_zero, List.set_cons_succ])
      refine wpAnyH_ready (rs := [10]) (by kernel_rfl) (by simp) ?_
      refine AllReadyH.cons (o := { dst := some 99, op := Op.call { callee := Callee.value (Operand.func 32), args := #[Operand.tmp 97, Operand.tmp 98], argTypes := #[28, 28] }, type := 4, pos := "extra.go:106", after := #[{ on := 8, ground := Ground.data }, { on := 9, ground := Ground.data }, { on := 7, ground := Ground.chain }, { on := 7, ground := Ground.guard }], guard := some (7, true) }) rfl (fun K hK => ?_) AllReadyH.nil
      go_simp
      refine (same_any X c _ _ _ _ _ _ _ _ _ HR1.out.l3 HR1.out.two.l1 HSX.out HSOC.out).mono ?_; rintro e' z2 ⟨rfl, hh⟩; have HR2 := Lib.hid (HR1.out.on hh); clear hh hHeld; rw [sameN_comm X c, HNE.out]; simp only []
      refine hK.out _ _ ⟨HR2.out.two.b1, HR2.out.two.b2, HR2.out.b3⟩ (fun hHeld => ?_)
      clear hK K
      (try simp only [Act.put, List.setIfInBounds_toArray, List.set_cons_zero, List.set_cons_succ])
      refine wpAnyH_take (i := 11) (oi := { dst := some 100, op := Op.unOp UnOp.not 4 (Operand.tmp 99), type := 4, pos := "extra.go:106", after := #[{ on := 10, ground := Ground.data }, { on := 7, ground := Ground.guard }], guard := some (7, true) }) (v := ?_) rfl (by kernel_rfl) (by kernel_rfl) (by kernel_rfl) (fun _ _ _ h => h) (Or.inl ⟨by rfl, ?_⟩) hHeld ?_
      rotate_left
      · (intro w hSw; (try dsimp only at hSw); go_simp; try with_reducible rfl)
      (try simp only [Act.put, List.setIfInBounds_toArray, List.set_cons_zero, List.set_cons_succ])
      refine wpAnyH_take (i := 12) (oi := { dst := some 101, op := Op.pick (Operand.tmp 96) (Operand.tmp 100) (Operand.const (Value.bool false)), type := 4, pos := "extra.go:106", after := #[{ on := 7, ground := Ground.data }, { on := 11, ground := Ground.data }], guard := none }) (v := ?_) rfl (by kernel_rfl) (by kernel_rfl) (by kernel_rfl) (fun _ _ _ h => h) (Or.inl ⟨by rfl, ?_⟩) hHeld ?_
      rotate_left
      · (intro w hSw; (try dsimp only at hSw); go_simp; try with_reducible rfl)
      (try simp only [Act.put, List.setIfInBounds_toArray, List.set_cons_zero, List.set_cons_succ])
      refine wpAnyH_take (i := 13) (oi := { dst := some 102, op := Op.move (Operand.tmp 101), type := 4, pos := "extra.go:106", after := #[{ on := 12, ground := Ground.data }, { on := 10, ground := Ground.chain }], guard := none }) (v := ?_) rfl (by kernel_rfl) (by kernel_rfl) (by kernel_rfl) (fun _ _ _ h => h) (Or.inl ⟨by rfl, ?_⟩) hHeld ?_
      rotate_left
      · (intro w hSw; (try dsimp only at hSw); go_simp; try with_reducible rfl)
      (try simp only [Act.put, List.setIfInBounds_toArray, List.set_cons_zero, List.set_cons_succ])
      refine wpAnyH_take (i := 14) (oi := { dst := some 103, op := Op.load 28 (Operand.tmp 4), type := 28, pos := "extra.go:106", after := #[{ on := 13, ground := Ground.guard }], guard := some (13, true) }) (v := cfgV c sl po pt ct) rfl (by kernel_rfl) (by kernel_rfl) (by kernel_rfl) (fun _ _ _ h => h) (yl28 (by rfl) _ rfl w.heap.size rfl c sl po pt ct (fun _ h => h.1)) hHeld ?_
      (try simp only [Act.put, List.setIfInBounds_toArray, List.set_cons_zero, List.set_cons_succ])
      refine wpAnyH_take (i := 15) (oi := { dst := some 104, op := Op.load 28 (Operand.tmp 5), type := 28, pos := "extra.go:106", after := #[{ on := 13, ground := Ground.guard }], guard := some (13, true) }) (v := cfgV d sl2 po2 pt2 ct2) rfl (by kernel_rfl) (by kernel_rfl) (by kernel_rfl) (fun _ _ _ h => h) (yl28 (by rfl) _ rfl (w.heap.size + 1) rfl d sl2 po2 pt2 ct2 (fun _ h => h.2.1)) hHeld ?_
      (try simp only [Act.put, List.setIfInBounds_toArray, List.set_cons_zero, List.set_cons_succ])
      refine wpAnyH_take (i := 17) (oi := { dst := some 106, op := Op.load 28 (Operand.tmp 5), type := 28, pos := "extra.go:106", after := #[{ on := 13, ground := Ground.guard }], guard := some (13, true) }) (v := cfgV d sl2 po2 pt2 ct2) rfl (by kernel_rfl) (by kernel_rfl) (by kernel_rfl) (fun _ _ _ h => h) (yl28 (by rfl) _ rfl (w.heap.size + 1) rfl d sl2 po2 pt2 ct2 (fun _ h => h.2.1)) hHeld ?_
      (try simp only [Act.put, List.setIfInBounds_toArray, List.set_cons_zero, List.set_cons_succ])
      refine wpAnyH_take (i := 18) (oi := { dst := some 107, op := Op.load 28 (Operand.tmp 4), type := 28, pos := "extra.go:106", after := #[{ on := 13, ground := Ground.guard }], guard := some (13, true) }) (v := cfgV c sl po pt ct) rfl (by kernel_rfl) (by kernel_rfl) (by kernel_rfl) (fun _ _ _ h => h) (yl28 (by rfl) _ rfl w.heap.size rfl c sl po pt ct (fun _ h => h.1)) hHeld ?_
      (try simp only [Act.put, List.setIfInBounds_toArray, List.set_cons_zero, List.set_cons_succ])
      refine wpAnyH_ready (rs := [16]) (by kernel_rfl) (by simp) ?_
      refine AllReadyH.cons (o := { dst := some 105, op := Op.call { callee := Callee.value (Operand.func 32), args := #[Operand.tmp 103, Operand.tmp 104], argTypes := #[28, 28] }, type := 4, pos := "extra.go:106", after := #[{ on := 14, ground := Ground.data }, { on := 15, ground := Ground.data }, { on := 13, ground := Ground.chain }, { on := 13, ground := Ground.guard }], guard := some (13, true) }) rfl (fun K hK => ?_) AllReadyH.nil
      go_simp
      refine (same_any c d _ _ _ _ _ _ _ _ _ HR2.out.two.l1 HR2.out.two.l2 HSOC.out HSO2.out).mono ?_; rintro e' z3 ⟨rfl, hh⟩; have HR3 := Lib.hid (HR2.out.on hh); clear hh hHeld; simp only []
      refine hK.out _ _ ⟨HR3.out.two.b1, HR3.out.two.b2, HR3.out.b3⟩ (fun hHeld => ?_)
      clear hK K
      (try simp only [Act.put, List.setIfInBounds_toArray, List.set_cons_zero, List.set_cons_succ])
      refine wpAnyH_ready (rs := [19]) (by kernel_rfl) (by simp) ?_
      refine AllReadyH.cons (o := { dst := some 108, op := Op.call { callee := Callee.value (Operand.func 32), args := #[Operand.tmp 106, Operand.tmp 107], argTypes := #[28, 28] }, type := 4, pos := "extra.go:106", after := #[{ on := 17, ground := Ground.data }, { on := 18, ground := Ground.data }, { on := 16, ground := Ground.chain }, { on := 13, ground := Ground.guard }], guard := some (13, true) }) rfl (fun K hK => ?_) AllReadyH.nil
      go_simp
      refine (same_any d c _ _ _ _ _ _ _ _ _ HR3.out.two.l2 HR3.out.two.l1 HSO2.out HSOC.out).mono ?_; rintro e' z4 ⟨rfl, hh⟩; have HR4 := Lib.hid (HR3.out.on hh); clear hh hHeld; rw [sameN_comm d c]; simp only []
      refine hK.out _ _ ⟨HR4.out.two.b1, HR4.out.two.b2, HR4.out.b3⟩ (fun hHeld => ?_)
      clear hK K
      (try simp only [Act.put, List.setIfInBounds_toArray, List.set_cons_zero, List.set_cons_succ])
      generalize sameN c d = sb
      cases sb
      · refine wpAnyH_take (i := 20) (oi := { dst := some 109, op := Op.binOp BinOp.eql 4 (Operand.tmp 105) (Operand.tmp 108) 4, type := 4, pos := "extra.go:106", after := #[{ on := 16, ground := Ground.data }, { on := 19, ground := Ground.data }, { on := 13, ground := Ground.guard }], guard := some (13, true) }) (v := ?_) rfl (by kernel_rfl) (by kernel_rfl) (by kernel_rfl) (fun _ _ _ h => h) (Or.inl ⟨by rfl, ?_⟩) hHeld ?_
        rotate_left
        · (intro w hSw; (try dsimp only at hSw); go_simp; try with_reducible rfl)
        (try simp only [Act.put, List.setIfInBounds_toArray, List.set_cons_zero, List.set_cons_succ])
        refine wpAnyH_take (i := 21) (oi := { dst := some 110, op := Op.pick (Operand.tmp 102) (Operand.tmp 109) (Operand.const (Value.bool false)), type := 4, pos := "extra.go:106", after := #[{ on := 13, ground := Ground.data }, { on := 20, ground := Ground.data }], guard := none }) (v := ?_) rfl (by kernel_rfl) (by kernel_rfl) (by kernel_rfl) (fun _ _ _ h => h) (Or.inl ⟨by rfl, ?_⟩) hHeld ?_
        rotate_left
        · (intro w hSw; (try dsimp only at hSw); go_simp; try with_reducible rfl)
        (try simp only [Act.put, List.setIfInBounds_toArray, List.set_cons_zero, List.set_cons_succ])
        refine wpAnyH_take (i := 22) (oi := { dst := some 8, op := Op.assign (Operand.tmp 110), type := 4, pos := "extra.go:106", after := #[{ on := 21, ground := Ground.data }, { on := 19, ground := Ground.chain }, { on := 0, ground := Ground.phase }, { on := 1, ground := Ground.phase }, { on := 2, ground := Ground.phase }, { on := 3, ground := Ground.phase }, { on := 4, ground := Ground.phase }, { on := 5, ground := Ground.phase }, { on := 6, ground := Ground.phase }, { on := 7, ground := Ground.phase }, { on := 8, ground := Ground.phase }, { on := 9, ground := Ground.phase }, { on := 10, ground := Ground.phase }, { on := 11, ground := Ground.phase }, { on := 12, ground := Ground.phase }, { on := 13, ground := Ground.phase }, { on := 14, ground := Ground.phase }, { on := 15, ground := Ground.phase }, { on := 16, ground := Ground.phase }, { on := 17, ground := Ground.phase }, { on := 18, ground := Ground.phase }, { on := 19, ground := Ground.phase }, { on := 20, ground := Ground.phase }, { on := 21, ground := Ground.phase }], guard := none }) (v := ?_) rfl (by kernel_rfl) (by kernel_rfl) (by kernel_rfl) (fun _ _ _ h => h) (Or.inl ⟨by rfl, ?_⟩) hHeld ?_
        rotate_left
        · (intro w hSw; (try dsimp only at hSw); go_simp; try with_reducible rfl)
        (try simp only [Act.put, List.setIfInBounds_toArray, List.set_cons_zero, List.set_cons_succ])
        refine wpAnyH_done (by kernel_rfl) ?_ _
        go_wp2
        go_ret
        exact ⟨rfl, HR4.out.two.below⟩
      · refine wpAnyH_take (i := 20) (oi := { dst := some 109, op := Op.binOp BinOp.eql 4 (Operand.tmp 105) (Operand.tmp 108) 4, type := 4, pos := "extra.go:106", after := #[{ on := 16, ground := Ground.data }, { on := 19, ground := Ground.data }, { on := 13, ground := Ground.guard }], guard := some (13, true) }) (v := ?_) rfl (by kernel_rfl) (by kernel_rfl) (by kernel_rfl) (fun _ _ _ h => h) (Or.inl ⟨by rfl, ?_⟩) hHeld ?_
        rotate_left
        · (intro w hSw; (try dsimp only at hSw); go_simp; try with_reducible rfl)
        (try simp only [Act.put, List.setIfInBounds_toArray, List.set_cons_zero, List.set_cons_succ])
        refine wpAnyH_take (i := 21) (oi := { dst := some 110, op := Op.pick (Operand.tmp 102) (Operand.tmp 109) (Operand.const (Value.bool false)), type := 4, pos := "extra.go:106", after := #[{ on := 13, ground := Ground.data }, { on := 20, ground := Ground.data }], guard := none }) (v := ?_) rfl (by kernel_rfl) (by kernel_rfl) (by kernel_rfl) (fun _ _ _ h => h) (Or.inl ⟨by rfl, ?_⟩) hHeld ?_
        rotate_left
        · (intro w hSw; (try dsimp only at hSw); go_simp; try with_reducible rfl)
        (try simp only [Act.put, List.setIfInBounds_toArray, List.set_cons_zero, List.set_cons_succ])
        refine wpAnyH_take (i := 22) (oi := { dst := some 8, op := Op.assign (Operand.tmp 110), type := 4, pos := "extra.go:106", after := #[{ on := 21, ground := Ground.data }, { on := 19, ground := Ground.chain }, { on := 0, ground := Ground.phase }, { on := 1, ground := Ground.phase }, { on := 2, ground := Ground.phase }, { on := 3, ground := Ground.phase }, { on := 4, ground := Ground.phase }, { on := 5, ground := Ground.phase }, { on := 6, ground := Ground.phase }, { on := 7, ground := Ground.phase }, { on := 8, ground := Ground.phase }, { on := 9, ground := Ground.phase }, { on := 10, ground := Ground.phase }, { on := 11, ground := Ground.phase }, { on := 12, ground := Ground.phase }, { on := 13, ground := Ground.phase }, { on := 14, ground := Ground.phase }, { on := 15, ground := Ground.phase }, { on := 16, ground := Ground.phase }, { on := 17, ground := Ground.phase }, { on := 18, ground := Ground.phase }, { on := 19, ground := Ground.phase }, { on := 20, ground := Ground.phase }, { on := 21, ground := Ground.phase }], guard := none }) (v := ?_) rfl (by kernel_rfl) (by kernel_rfl) (by kernel_rfl) (fun _ _ _ h => h) (Or.inl ⟨by rfl, ?_⟩) hHeld ?_
        rotate_left
        · (intro w hSw; (try dsimp only at hSw); go_simp; try with_reducible rfl)
        (try simp only [Act.put, List.setIfInBounds_toArray, List.set_cons_zero, List.set_cons_succ])
        refine wpAnyH_done (by kernel_rfl) ?_ _
        go_wp2
        go_ret
        exact ⟨rfl, HR4.out.two.below⟩
    · obtain ⟨X, hX⟩ : ∃ X : Cfg, X = { c with slaves := c.slaves ++ [more] } := ⟨_, rfl⟩
      obtain ⟨v', w5, happ, hgr⟩ := app_row appT_int (W.alloc (.cells #[.int .i64 more] 3)) w3.heap.size (.slice u1 c.slaves.length t1) (.slice (some ⟨W.heap.size, 0, none⟩) 1 1) c.slaves.length 1 (icells c.slaves) [.int .i64 more] (HO5.out.sl.alloc _) (lit_lies W [.int .i64 more] 3) rfl (by intro u hu; simp at hu; first | (subst hu; rfl) | (rcases hu with rfl | rfl <;> rfl)) (by have := HSZ.out.1; simp; omega) (by have := HSOC.out.1; omega) (by omega)
      have HGR := Lib.hid hgr
      obtain ⟨ux, tx, rfl⟩ := own_slice hgr.1
      clear hgr
      have hX5 : CfgBox (W.alloc (.cells #[.int .i64 more] 3)) k c (.slice u1 c.slaves.length t1) (.slice u2 c.polls.length t2) (.slice u3 c.points.length t3) (.slice u4 c.ctls.length t4) := keep_heap (below_new W _) HX5.out
      have HX6 : Hid (CfgBox w5 k c (.slice u1 c.slaves.length t1) (.slice u2 c.polls.length t2) (.slice u3 c.points.length t3) (.slice u4 c.ctls.length t4)) := Lib.hid (HGR.out.box (HO5.out.sl.alloc _) hX5 (by decide))
      have HBG : Hid (CfgBox w5 w.heap.size c sl po pt ct ∧ CfgBox w5 (w.heap.size + 1) d sl2 po2 pt2 ct2) := Lib.hid ⟨HGR.out.box (HO5.out.sl.alloc _) (keep_heap (below_new W _) HT5.out.b1) (by decide), HGR.out.box (HO5.out.sl.alloc _) (keep_heap (below_new W _) HT5.out.b2) (by decide)⟩
      have s0 := cells_of hX5 13 _ rfl
      clear hX5
      have s1 := cells_of HX6.out 13 _ rfl
      have f1 : w5.frozen? ⟨k, 13, none⟩ = false := frozen_of_row _ _ _ _ _ HX6.out
      have s2 := cells_of HX5.out 13 _ rfl
      go_wp2_with (at_builtin; refine Lib.wpList_append_run _ rfl _ _ _ _ rfl _ _ rfl rfl _ _ happ ?_)
      clear s0 s1 s2 f1 happ
      have hbox : CfgBox (w5.setCell ⟨k, 13, none⟩ (.slice ux (c.slaves.length + 1) tx)) k X (.slice ux (c.slaves.length + 1) tx) (.slice u2 c.polls.length t2) (.slice u3 c.points.length t3) (.slice u4 c.ctls.length t4) := by rw [hX]; exact heap_set _ _ _ _ _ _ _ HX6.out
      have hlen : X.slaves.length = c.slaves.length + 1 := by rw [hX]; simp
      have hown : OwnLists (w5.setCell ⟨k, 13, none⟩ (.slice ux (c.slaves.length + 1) tx)) w3.heap.size X (.slice ux (c.slaves.length + 1) tx) (.slice u2 c.polls.length t2) (.slice u3 c.points.length t3) (.slice u4 c.ctls.length t4) := by
        rw [hX]
        refine ⟨?_, ?_, ?_, ?_⟩
        · have := own_set (o := 13) (u := (.slice ux (c.slaves.length + 1) tx)) HGR.out.1 HX6.out (by decide)
          have e : icells (c.slaves ++ [more]) = icells c.slaves ++ [.int .i64 more] := by rw [icells_append]; rfl
          simp only [List.length_append, List.length_singleton]
          rw [e]
          exact this
        · exact own_set (HGR.out.row2 (HO5.out.sl.alloc _) (HO5.out.po.alloc _) (by decide)) HX6.out (by decide) _
        · exact own_set (HGR.out.row2 (HO5.out.sl.alloc _) (HO5.out.pt.alloc _) (by decide)) HX6.out (by decide) _
        · exact own_set (HGR.out.row2 (HO5.out.sl.alloc _) (HO5.out.ct.alloc _) (by decide)) HX6.out (by decide) _
      have hbb : Below w.heap.size w (w5.setCell ⟨k, 13, none⟩ (.slice ux (c.slaves.length + 1) tx)) := (HT5.out.below.trans (below_two HB3.out HSZ.out.1 (below_new W _) (HGR.out.below (HO5.out.sl.alloc _) (by have := HSZ.out.1; simp; omega)))).trans (below_set _ _ _ _ _ (by have := HSZ.out.2; omega))
      have HR : Hid (ThreeIn w w3.heap.size w.heap.size (w.heap.size + 1) k c d X sl po pt ct sl2 po2 pt2 ct2 (.slice ux (c.slaves.length + 1) tx) (.slice u2 c.polls.length t2) (.slice u3 c.points.length t3) (.slice u4 c.ctls.length t4) (w5.setCell ⟨k, 13, none⟩ (.slice ux (c.slaves.length + 1) tx))) := Lib.hid ⟨⟨hbb, box_set HBG.out.1 (by have := HSZ.out.2; omega), box_set HBG.out.2 (by have := HSZ.out.2; omega), HL0.out.1.on hbb, HL0.out.2.on hbb⟩, hbox, hown.lists⟩
      have HSX : Hid (SomeC X) := Lib.hid (by rw [hX]; have := HF.out.1; unfold SomeC; unfold FewC at this; simp; omega)
      have HNE : Hid (sameN c X = false) := Lib.hid (sameN_ne (by rw [hX]; intro h; have h2 := congrArg (fun q => q.slaves.length) h; simp at h2))
      clear hbox hlen hown hbb hX HT5 HX5 HO5 HX6 HBG HGR
      generalize (w5.setCell ⟨k, 13, none⟩ (.slice ux (c.slaves.length + 1) tx)) = W1 at *
      have HRd := Lib.hid (HR.out.on ((Below.refl W1.heap.size W1).drew))
      refine wp_region_held_drew (S := fun w' => CfgBox w' w.heap.size c sl po pt ct ∧ CfgBox w' (w.heap.size + 1) d sl2 po2 pt2 ct2 ∧ CfgBox w' k X (.slice ux (c.slaves.length + 1) tx) (.slice u2 c.polls.length t2) (.slice u3 c.points.length t3) (.slice u4 c.ctls.length t4)) (by kernel_rfl) ⟨HR.out.two.b1, HR.out.two.b2, HR.out.b3⟩ (fun hHeld => ?_)
      refine wpAnyH_ready (rs := [0]) (by kernel_rfl) (by simp) ?_
      refine AllReadyH.cons (o := { dst := some 89, op := Op.call { callee := Callee.value (Operand.func 13), args := #[], argTypes := #[] }, type := 4, pos := "extra.go:106", after := #[], guard := none }) rfl (fun K hK => ?_) AllReadyH.nil
      go_simp
      refine (HFI.out _ (HG.out.on HRd.out.two.below)).mono ?_; rintro e' z0 ⟨rfl, hh⟩; have HR0 := Lib.hid (HRd.out.on hh); clear hh hHeld; simp only []
      refine hK.out _ _ ⟨HR0.out.two.b1, HR0.out.two.b2, HR0.out.b3⟩ (fun hHeld => ?_)
      clear hK K
      (try simp only [Act.put, List.setIfInBounds_toArray, List.set_cons_zero, List.set_cons_succ])
      refine wpAnyH_take (i := 1) (oi := { dst := some 90, op := Op.move (Operand.tmp 89), type := 4, pos := "extra.go:106", after := #[{ on := 0, ground := Ground.data }, { on := 0, ground := Ground.chain }], guard := none }) (v := ?_) rfl (by kernel_rfl) (by kernel_rfl) (by kernel_rfl) (fun _ _ _ h => h) (Or.inl ⟨by rfl, ?_⟩) hHeld ?_
      rotate_left
      · (intro w hSw; (try dsimp only at hSw); go_simp; try with_reducible rfl)
      (try simp only [Act.put, List.setIfInBounds_toArray, List.set_cons_zero, List.set_cons_succ])
      refine wpAnyH_take (i := 2) (oi := { dst := some 91, op := Op.load 28 (Operand.tmp 4), type := 28, pos := "extra.go:106", after := #[{ on := 1, ground := Ground.guard }], guard := some (1, true) }) (v := cfgV c sl po pt ct) rfl (by kernel_rfl) (by kernel_rfl) (by kernel_rfl) (fun _ _ _ h => h) (yl28 (by rfl) _ rfl w.heap.size rfl c sl po pt ct (fun _ h => h.1)) hHeld ?_
      (try simp only [Act.put, List.setIfInBounds_toArray, List.set_cons_zero, List.set_cons_succ])
      refine wpAnyH_take (i := 3) (oi := { dst := some 92, op := Op.load 28 (Operand.tmp 9), type := 28, pos := "extra.go:106", after := #[{ on := 1, ground := Ground.guard }], guard := some (1, true) }) (v := cfgV X (.slice ux (c.slaves.length + 1) tx) (.slice u2 c.polls.length t2) (.slice u3 c.points.length t3) (.slice u4 c.ctls.length t4)) rfl (by kernel_rfl) (by kernel_rfl) (by kernel_rfl) (fun _ _ _ h => h) (yl28 (by rfl) _ rfl k rfl X (.slice ux (c.slaves.length + 1) tx) (.slice u2 c.polls.length t2) (.slice u3 c.points.length t3) (.slice u4 c.ctls.length t4) (fun _ h => h.2.2)) hHeld ?_
      (try simp only [Act.put, List.setIfInBounds_toArray, List.set_cons_zero, List.set_cons_succ])
      refine wpAnyH_ready (rs := [4]) (by kernel_rfl) (by simp) ?_
      refine AllReadyH.cons (o := { dst := some 93, op := Op.call { callee := Callee.value (Operand.func 32), args := #[Operand.tmp 91, Operand.tmp 92], argTypes := #[28, 28] }, type := 4, pos := "extra.go:106", after := #[{ on := 2, ground := Ground.data }, { on := 3, ground := Ground.data }, { on := 1, ground := Ground.chain }, { on := 1, ground := Ground.guard }], guard := some (1, true) }) rfl (fun K hK => ?_) AllReadyH.nil
      go_simp
      refine (same_any c X _ _ _ _ _ _ _ _ _ HR0.out.two.l1 HR0.out.l3 HSOC.out HSX.out).mono ?_; rintro e' z1 ⟨rfl, hh⟩; have HR1 := Lib.hid (HR0.out.on hh); clear hh hHeld; rw [HNE.out]; simp only []
      refine hK.out _ _ ⟨HR1.out.two.b1, HR1.out.two.b2, HR1.out.b3⟩ (fun hHeld => ?_)
      clear hK K
      (try simp only [Act.put, List.setIfInBounds_toArray, List.set_cons_zero, List.set_cons_succ])
      refine wpAnyH_take (i := 5) (oi := { dst := some 94, op := Op.unOp UnOp.not 4 (Operand.tmp 93), type := 4, pos := "extra.go:106", after := #[{ on := 4, ground := Ground.data }, { on := 1, ground := Ground.guard }], guard := some (1, true) }) (v := ?_) rfl (by kernel_rfl) (by kernel_rfl) (by kernel_rfl) (fun _ _ _ h => h) (Or.inl ⟨by rfl, ?_⟩) hHeld ?_
      rotate_left
      · (intro w hSw; (try dsimp only at hSw); go_simp; try with_reducible rfl)
      (try simp only [Act.put, List.setIfInBounds_toArray, List.set_cons_zero, List.set_cons_succ])
      refine wpAnyH_take (i := 6) (oi := { dst := some 95, op := Op.pick (Operand.tmp 90) (Operand.tmp 94) (Operand.const (Value.bool false)), type := 4, pos := "extra.go:106", after := #[{ on := 1, ground := Ground.data }, { on := 5, ground := Ground.data }], guard := none }) (v := ?_) rfl (by kernel_rfl) (by kernel_rfl) (by kernel_rfl) (fun _ _ _ h => h) (Or.inl ⟨by rfl, ?_⟩) hHeld ?_
      rotate_left
      · (intro w hSw; (try dsimp only at hSw); go_simp; try with_reducible rfl)
      (try simp only [Act.put, List.setIfInBounds_toArray, List.set_cons_zero, List.set_cons_succ])
      refine wpAnyH_take (i := 7) (oi := { dst := some 96, op := Op.move (Operand.tmp 95), type := 4, pos := "extra.go:106", after := #[{ on := 6, ground := Ground.data }, { on := 4, ground := Ground.chain }], guard := none }) (v := ?_) rfl (by kernel_rfl) (by kernel_rfl) (by kernel_rfl) (fun _ _ _ h => h) (Or.inl ⟨by rfl, ?_⟩) hHeld ?_
      rotate_left
      · (intro w hSw; (try dsimp only at hSw); go_simp; try with_reducible rfl)
      (try simp only [Act.put, List.setIfInBounds_toArray, List.set_cons_zero, List.set_cons_succ])
      refine wpAnyH_take (i := 8) (oi := { dst := some 97, op := Op.load 28 (Operand.tmp 9), type := 28, pos := "extra.go:106", after := #[{ on := 7, ground := Ground.guard }], guard := some (7, true) }) (v := cfgV X (.slice ux (c.slaves.length + 1) tx) (.slice u2 c.polls.length t2) (.slice u3 c.points.length t3) (.slice u4 c.ctls.length t4)) rfl (by kernel_rfl) (by kernel_rfl) (by kernel_rfl) (fun _ _ _ h => h) (yl28 (by rfl) _ rfl k rfl X (.slice ux (c.slaves.length + 1) tx) (.slice u2 c.polls.length t2) (.slice u3 c.points.length t3) (.slice u4 c.ctls.length t4) (fun _ h => h.2.2)) hHeld ?_
      (try simp only [Act.put, List.setIfInBounds_toArray, List.set_cons_zero, List.set_cons_succ])
      refine wpAnyH_take (i := 9) (oi := { dst := some 98, op := Op.load 28 (Operand.tmp 4), type := 28, pos := "extra.go:106", after := #[{ on := 7, ground := Ground.guard }], guard := some (7, true) }) (v := cfgV c sl po pt ct) rfl (by kernel_rfl) (by kernel_rfl) (by kernel_rfl) (fun _ _ _ h => h) (yl28 (by rfl) _ rfl w.heap.size rfl c sl po pt ct (fun _ h => h.1)) hHeld ?_
      (try simp only [Act.put, List.setIfInBounds_toArray, List.set_cons_zero, List.set_cons_succ])
      refine wpAnyH_ready (rs := [10]) (by kernel_rfl) (by simp) ?_
      refine AllReadyH.cons (o := { dst := some 99, op := Op.call { callee := Callee.value (Operand.func 32), args := #[Operand.tmp 97, Operand.tmp 98], argTypes := #[28, 28] }, type := 4, pos := "extra.go:106", after := #[{ on := 8, ground := Ground.data }, { on := 9, ground := Ground.data }, { on := 7, ground := Ground.chain }, { on := 7, ground := Ground.guard }], guard := some (7, true) }) rfl (fun K hK => ?_) AllReadyH.nil
      go_simp
      refine (same_any X c _ _ _ _ _ _ _ _ _ HR1.out.l3 HR1.out.two.l1 HSX.out HSOC.out).mono ?_; rintro e' z2 ⟨rfl, hh⟩; have HR2 := Lib.hid (HR1.out.on hh); clear hh hHeld; rw [sameN_comm X c, HNE.out]; simp only []
      refine hK.out _ _ ⟨HR2.out.two.b1, HR2.out.two.b2, HR2.out.b3⟩ (fun hHeld => ?_)
      clear hK K
      (try simp only [Act.put, List.setIfInBounds_toArray, List.set_cons_zero, List.set_cons_succ])
      refine wpAnyH_take (i := 11) (oi := { dst := some 100, op := Op.unOp UnOp.not 4 (Operand.tmp 99), type := 4, pos := "extra.go:106", after := #[{ on := 10, ground := Ground.data }, { on := 7, ground := Ground.guard }], guard := some (7, true) }) (v := ?_) rfl (by kernel_rfl) (by kernel_rfl) (by kernel_rfl) (fun _ _ _ h => h) (Or.inl ⟨by rfl, ?_⟩) hHeld ?_
      rotate_left
      · (intro w hSw; (try dsimp only at hSw); go_simp; try with_reducible rfl)
      (try simp only [Act.put, List.setIfInBounds_toArray, List.set_cons_zero, List.set_cons_succ])
      refine wpAnyH_take (i := 12) (oi := { dst := some 101, op := Op.pick (Operand.tmp 96) (Operand.tmp 100) (Operand.const (Value.bool false)), type := 4, pos := "extra.go:106", after := #[{ on := 7, ground := Ground.data }, { on := 11, ground := Ground.data }], guard := none }) (v := ?_) rfl (by kernel_rfl) (by kernel_rfl) (by kernel_rfl) (fun _ _ _ h => h) (Or.inl ⟨by rfl, ?_⟩) hHeld ?_
      rotate_left
      · (intro w hSw; (try dsimp only at hSw); go_simp; try with_reducible rfl)
      (try simp only [Act.put, List.setIfInBounds_toArray, List.set_cons_zero, List.set_cons_succ])
      refine wpAnyH_take (i := 13) (oi := { dst := some 102, op := Op.move (Operand.tmp 101), type := 4, pos := "extra.go:106", after := #[{ on := 12, ground := Ground.data }, { on := 10, ground := Ground.chain }], guard := none }) (v := ?_) rfl (by kernel_rfl) (by kernel_rfl) (by kernel_rfl) (fun _ _ _ h => h) (Or.inl ⟨by rfl, ?_⟩) hHeld ?_
      rotate_left
      · (intro w hSw; (try dsimp only at hSw); go_simp; try with_reducible rfl)
      (try simp only [Act.put, List.setIfInBounds_toArray, List.set_cons_zero, List.set_cons_succ])
      refine wpAnyH_take (i := 14) (oi := { dst := some 103, op := Op.load 28 (Operand.tmp 4), type := 28, pos := "extra.go:106", after := #[{ on := 13, ground := Ground.guard }], guard := some (13, true) }) (v := cfgV c sl po pt ct) rfl (by kernel_rfl) (by kernel_rfl) (by kernel_rfl) (fun _ _ _ h => h) (yl28 (by rfl) _ rfl w.heap.size rfl c sl po pt ct (fun _ h => h.1)) hHeld ?_
      (try simp only [Act.put, List.setIfInBounds_toArray, List.set_cons_zero, List.set_cons_succ])
      refine wpAnyH_take (i := 15) (oi := { dst := some 104, op := Op.load 28 (Operand.tmp 5), type := 28, pos := "extra.go:106", after := #[{ on := 13, ground := Ground.guard }], guard := some (13, true) }) (v := cfgV d sl2 po2 pt2 ct2) rfl (by kernel_rfl) (by kernel_rfl) (by kernel_rfl) (fun _ _ _ h => h) (yl28 (by rfl) _ rfl (w.heap.size + 1) rfl d sl2 po2 pt2 ct2 (fun _ h => h.2.1)) hHeld ?_
      (try simp only [Act.put, List.setIfInBounds_toArray, List.set_cons_zero, List.set_cons_succ])
      refine wpAnyH_take (i := 17) (oi := { dst := some 106, op := Op.load 28 (Operand.tmp 5), type := 28, pos := "extra.go:106", after := #[{ on := 13, ground := Ground.guard }], guard := some (13, true) }) (v := cfgV d sl2 po2 pt2 ct2) rfl (by kernel_rfl) (by kernel_rfl) (by kernel_rfl) (fun _ _ _ h => h) (yl28 (by rfl) _ rfl (w.heap.size + 1) rfl d sl2 po2 pt2 ct2 (fun _ h => h.2.1)) hHeld ?_
      (try simp only [Act.put, List.setIfInBounds_toArray, List.set_cons_zero, List.set_cons_succ])
      refine wpAnyH_take (i := 18) (oi := { dst := some 107, op := Op.load 28 (Operand.tmp 4), type := 28, pos := "extra.go:106", after := #[{ on := 13, ground := Ground.guard }], guard := some (13, true) }) (v := cfgV c sl po pt ct) rfl (by kernel_rfl) (by kernel_rfl) (by kernel_rfl) (fun _ _ _ h => h) (yl28 (by rfl) _ rfl w.heap.size rfl c sl po pt ct (fun _ h => h.1)) hHeld ?_
      (try simp only [Act.put, List.setIfInBounds_toArray, List.set_cons_zero, List.set_cons_succ])
      refine wpAnyH_ready (rs := [16]) (by kernel_rfl) (by simp) ?_
      refine AllReadyH.cons (o := { dst := some 105, op := Op.call { callee := Callee.value (Operand.func 32), args := #[Operand.tmp 103, Operand.tmp 104], argTypes := #[28, 28] }, type := 4, pos := "extra.go:106", after := #[{ on := 14, ground := Ground.data }, { on := 15, ground := Ground.data }, { on := 13, ground := Ground.chain }, { on := 13, ground := Ground.guard }], guard := some (13, true) }) rfl (fun K hK => ?_) AllReadyH.nil
      go_simp
      refine (same_any c d _ _ _ _ _ _ _ _ _ HR2.out.two.l1 HR2.out.two.l2 HSOC.out HSO2.out).mono ?_; rintro e' z3 ⟨rfl, hh⟩; have HR3 := Lib.hid (HR2.out.on hh); clear hh hHeld; simp only []
      refine hK.out _ _ ⟨HR3.out.two.b1, HR3.out.two.b2, HR3.out.b3⟩ (fun hHeld => ?_)
      clear hK K
      (try simp only [Act.put, List.setIfInBounds_toArray, List.set_cons_zero, List.set_cons_succ])
      refine wpAnyH_ready (rs := [19]) (by kernel_rfl) (by simp) ?_
      refine AllReadyH.cons (o := { dst := some 108, op := Op.call { callee := Callee.value (Operand.func 32), args := #[Operand.tmp 106, Operand.tmp 107], argTypes := #[28, 28] }, type := 4, pos := "extra.go:106", after := #[{ on := 17, ground := Ground.data }, { on := 18, ground := Ground.data }, { on := 16, ground := Ground.chain }, { on := 13, ground := Ground.guard }], guard := some (13, true) }) rfl (fun K hK => ?_) AllReadyH.nil
      go_simp
      refine (same_any d c _ _ _ _ _ _ _ _ _ HR3.out.two.l2 HR3.out.two.l1 HSO2.out HSOC.out).mono ?_; rintro e' z4 ⟨rfl, hh⟩; have HR4 := Lib.hid (HR3.out.on hh); clear hh hHeld; rw [sameN_comm d c]; simp only []
      refine hK.out _ _ ⟨HR4.out.two.b1, HR4.out.two.b2, HR4.out.b3⟩ (fun hHeld => ?_)
      clear hK K
      (try simp only [Act.put, List.setIfInBounds_toArray, List.set_cons_zero, List.set_cons_succ])
      generalize sameN c d = sb
      cases sb
      · refine wpAnyH_take (i := 20) (oi := { dst := some 109, op := Op.binOp BinOp.eql 4 (Operand.tmp 105) (Operand.tmp 108) 4, type := 4, pos := "extra.go:106", after := #[{ on := 16, ground := Ground.data }, { on := 19, ground := Ground.data }, { on := 13, ground := Ground.guard }], guard := some (13, true) }) (v := ?_) rfl (by kernel_rfl) (by kernel_rfl) (by kernel_rfl) (fun _ _ _ h => h) (Or.inl ⟨by rfl, ?_⟩) hHeld ?_
        rotate_left
        · (intro w hSw; (try dsimp only at hSw); go_simp; try with_reducible rfl)
        (try simp only [Act.put, List.setIfInBounds_toArray, List.set_cons_zero, List.set_cons_succ])
        refine wpAnyH_take (i := 21) (oi := { dst := some 110, op := Op.pick (Operand.tmp 102) (Operand.tmp 109) (Operand.const (Value.bool false)), type := 4, pos := "extra.go:106", after := #[{ on := 13, ground := Ground.data }, { on := 20, ground := Ground.data }], guard := none }) (v := ?_) rfl (by kernel_rfl) (by kernel_rfl) (by kernel_rfl) (fun _ _ _ h => h) (Or.inl ⟨by rfl, ?_⟩) hHeld ?_
        rotate_left
        · (intro w hSw; (try dsimp only at hSw); go_simp; try with_reducible rfl)
        (try simp only [Act.put, List.setIfInBounds_toArray, List.set_cons_zero, List.set_cons_succ])
        refine wpAnyH_take (i := 22) (oi := { dst := some 8, op := Op.assign (Operand.tmp 110), type := 4, pos := "extra.go:106", after := #[{ on := 21, ground := Ground.data }, { on := 19, ground := Ground.chain }, { on := 0, ground := Ground.phase }, { on := 1, ground := Ground.phase }, { on := 2, ground := Ground.phase }, { on := 3, ground := Ground.phase }, { on := 4, ground := Ground.phase }, { on := 5, ground := Ground.phase }, { on := 6, ground := Ground.phase }, { on := 7, ground := Ground.phase }, { on := 8, ground := Ground.phase }, { on := 9, ground := Ground.phase }, { on := 10, ground := Ground.phase }, { on := 11, ground := Ground.phase }, { on := 12, ground := Ground.phase }, { on := 13, ground := Ground.phase }, { on := 14, ground := Ground.phase }, { on := 15, ground := Ground.phase }, { on := 16, ground := Ground.phase }, { on := 17, ground := Ground.phase }, { on := 18, ground := Ground.phase }, { on := 19, ground := Ground.phase }, { on := 20, ground := Ground.phase }, { on := 21, ground := Ground.phase }], guard := none }) (v := ?_) rfl (by kernel_rfl) (by kernel_rfl) (by kernel_rfl) (fun _ _ _ h => h) (Or.inl ⟨by rfl, ?_⟩) hHeld ?_
        rotate_left
        · (intro w hSw; (try dsimp only at hSw); go_simp; try with_reducible rfl)
        (try simp only [Act.put, List.setIfInBounds_toArray, List.set_cons_zero, List.set_cons_succ])
        refine wpAnyH_done (by kernel_rfl) ?_ _
        go_wp2
        go_ret
        exact ⟨rfl, HR4.out.two.below⟩
      · refine wpAnyH_take (i := 20) (oi := { dst := some 109, op := Op.binOp BinOp.eql 4 (Operand.tmp 105) (Operand.tmp 108) 4, type := 4, pos := "extra.go:106", after := #[{ on := 16, ground := Ground.data }, { on := 19, ground := Ground.data }, { on := 13, ground := Ground.guard }], guard := some (13, true) }) (v := ?_) rfl (by kernel_rfl) (by kernel_rfl) (by kernel_rfl) (fun _ _ _ h => h) (Or.inl ⟨by rfl, ?_⟩) hHeld ?_
        rotate_left
        · (intro w hSw; (try dsimp only at hSw); go_simp; try with_reducible rfl)
        (try simp only [Act.put, List.setIfInBounds_toArray, List.set_cons_zero, List.set_cons_succ])
        refine wpAnyH_take (i := 21) (oi := { dst := some 110, op := Op.pick (Operand.tmp 102) (Operand.tmp 109) (Operand.const (Value.bool false)), type := 4, pos := "extra.go:106", after := #[{ on := 13, ground := Ground.data }, { on := 20, ground := Ground.data }], guard := none }) (v := ?_) rfl (by kernel_rfl) (by kernel_rfl) (by kernel_rfl) (fun _ _ _ h => h) (Or.inl ⟨by rfl, ?_⟩) hHeld ?_
        rotate_left
        · (intro w hSw; (try dsimp only at hSw); go_simp; try with_reducible rfl)
        (try simp only [Act.put, List.setIfInBounds_toArray, List.set_cons_zero, List.set_cons_succ])
        refine wpAnyH_take (i := 22) (oi := { dst := some 8, op := Op.assign (Operand.tmp 110), type := 4, pos := "extra.go:106", after := #[{ on := 21, ground := Ground.data }, { on := 19, ground := Ground.chain }, { on := 0, ground := Ground.phase }, { on := 1, ground := Ground.phase }, { on := 2, ground := Ground.phase }, { on := 3, ground := Ground.phase }, { on := 4, ground := Ground.phase }, { on := 5, ground := Ground.phase }, { on := 6, ground := Ground.phase }, { on := 7, ground := Ground.phase }, { on := 8, ground := Ground.phase }, { on := 9, ground := Ground.phase }, { on := 10, ground := Ground.phase }, { on := 11, ground := Ground.phase }, { on := 12, ground := Ground.phase }, { on := 13, ground := Ground.phase }, { on := 14, ground := Ground.phase }, { on := 15, ground := Ground.phase }, { on := 16, ground := Ground.phase }, { on := 17, ground := Ground.phase }, { on := 18, ground := Ground.phase }, { on := 19, ground := Ground.phase }, { on := 20, ground := Ground.phase }, { on := 21, ground := Ground.phase }], guard := none }) (v := ?_) rfl (by kernel_rfl) (by kernel_rfl) (by kernel_rfl) (fun _ _ _ h => h) (Or.inl ⟨by rfl, ?_⟩) hHeld ?_
        rotate_left
        · (intro w hSw; (try dsimp only at hSw); go_simp; try with_reducible rfl)
        (try simp only [Act.put, List.setIfInBounds_toArray, List.set_cons_zero, List.set_cons_succ])
        refine wpAnyH_done (by kernel_rfl) ?_ _
        go_wp2
        go_ret
        exact ⟨rfl, HR4.out.two.below⟩
    · obtain ⟨X, hX⟩ : ∃ X : Cfg, X = { c with polls := c.polls ++ [noPoll] } := ⟨_, rfl⟩
      obtain ⟨v', w5, happ, hgr⟩ := app_row appT_poll (W.alloc (.cells #[.int .i64 0, .int .i64 0, .int .i64 0, .int .i64 0, .int .i64 0] 68)) w3.heap.size (.slice u2 c.polls.length t2) (.slice (some ⟨W.heap.size, 0, none⟩) 1 1) c.polls.length 1 (pollCells c.polls) [.int .i64 0, .int .i64 0, .int .i64 0, .int .i64 0, .int .i64 0] (HO5.out.po.alloc _) (lit_lies W [.int .i64 0, .int .i64 0, .int .i64 0, .int .i64 0, .int .i64 0] 68) rfl (by intro u hu; simp at hu; first | (subst hu; rfl) | (rcases hu with rfl | rfl <;> rfl)) (by have := HSZ.out.1; simp; omega) (by have := HSOC.out.2.1; omega) (by omega)
      have HGR := Lib.hid hgr
      obtain ⟨ux, tx, rfl⟩ := own_slice hgr.1
      clear hgr
      have hX5 : CfgBox (W.alloc (.cells #[.int .i64 0, .int .i64 0, .int .i64 0, .int .i64 0, .int .i64 0] 68)) k c (.slice u1 c.slaves.length t1) (.slice u2 c.polls.length t2) (.slice u3 c.points.length t3) (.slice u4 c.ctls.length t4) := keep_heap (below_new W _) HX5.out
      have HX6 : Hid (CfgBox w5 k c (.slice u1 c.slaves.length t1) (.slice u2 c.polls.length t2) (.slice u3 c.points.length t3) (.slice u4 c.ctls.length t4)) := Lib.hid (HGR.out.box (HO5.out.po.alloc _) hX5 (by decide))
      have HBG : Hid (CfgBox w5 w.heap.size c sl po pt ct ∧ CfgBox w5 (w.heap.size + 1) d sl2 po2 pt2 ct2) := Lib.hid ⟨HGR.out.box (HO5.out.po.alloc _) (keep_heap (below_new W _) HT5.out.b1) (by decide), HGR.out.box (HO5.out.po.alloc _) (keep_heap (below_new W _) HT5.out.b2) (by decide)⟩
      have s0 := cells_of hX5 14 _ rfl
      clear hX5
      have s1 := cells_of HX6.out 14 _ rfl
      have f1 : w5.frozen? ⟨k, 14, none⟩ = false := frozen_of_row _ _ _ _ _ HX6.out
      have s2 := cells_of HX5.out 14 _ rfl
      go_wp2_with (at_builtin; refine Lib.wpList_append_run _ rfl _ _ _ _ rfl _ _ rfl rfl _ _ happ ?_)
      clear s0 s1 s2 f1 happ
      have hbox : CfgBox (w5.setCell ⟨k, 14, none⟩ (.slice ux (c.polls.length + 1) tx)) k X (.slice u1 c.slaves.length t1) (.slice ux (c.polls.length + 1) tx) (.slice u3 c.points.length t3) (.slice u4 c.ctls.length t4) := by rw [hX]; exact heap_set _ _ _ _ _ _ _ HX6.out
      have hlen : X.polls.length = c.polls.length + 1 := by rw [hX]; simp
      have hown : OwnLists (w5.setCell ⟨k, 14, none⟩ (.slice ux (c.polls.length + 1) tx)) w3.heap.size X (.slice u1 c.slaves.length t1) (.slice ux (c.polls.length + 1) tx) (.slice u3 c.points.length t3) (.slice u4 c.ctls.length t4) := by
        rw [hX]
        refine ⟨?_, ?_, ?_, ?_⟩
        · exact own_set (HGR.out.row2 (HO5.out.po.alloc _) (HO5.out.sl.alloc _) (by decide)) HX6.out (by decide) _
        · have := own_set (o := 14) (u := (.slice ux (c.polls.length + 1) tx)) HGR.out.1 HX6.out (by decide)
          have e : pollCells (c.polls ++ [noPoll]) = pollCells c.polls ++ [.int .i64 0, .int .i64 0, .int .i64 0, .int .i64 0, .int .i64 0] := by rw [pollCells_append]; rfl
          simp only [List.length_append, List.length_singleton]
          rw [e]
          exact this
        · exact own_set (HGR.out.row2 (HO5.out.po.alloc _) (HO5.out.pt.alloc _) (by decide)) HX6.out (by decide) _
        · exact own_set (HGR.out.row2 (HO5.out.po.alloc _) (HO5.out.ct.alloc _) (by decide)) HX6.out (by decide) _
      have hbb : Below w.heap.size w (w5.setCell ⟨k, 14, none⟩ (.slice ux (c.polls.length + 1) tx)) := (HT5.out.below.trans (below_two HB3.out HSZ.out.1 (below_new W _) (HGR.out.below (HO5.out.po.alloc _) (by have := HSZ.out.1; simp; omega)))).trans (below_set _ _ _ _ _ (by have := HSZ.out.2; omega))
      have HR : Hid (ThreeIn w w3.heap.size w.heap.size (w.heap.size + 1) k c d X sl po pt ct sl2 po2 pt2 ct2 (.slice u1 c.slaves.length t1) (.slice ux (c.polls.length + 1) tx) (.slice u3 c.points.length t3) (.slice u4 c.ctls.length t4) (w5.setCell ⟨k, 14, none⟩ (.slice ux (c.polls.length + 1) tx))) := Lib.hid ⟨⟨hbb, box_set HBG.out.1 (by have := HSZ.out.2; omega), box_set HBG.out.2 (by have := HSZ.out.2; omega), HL0.out.1.on hbb, HL0.out.2.on hbb⟩, hbox, hown.lists⟩
      have HSX : Hid (SomeC X) := Lib.hid (by rw [hX]; have := HF.out.1; unfold SomeC; unfold FewC at this; simp; omega)
      have HNE : Hid (sameN c X = false) := Lib.hid (sameN_ne (by rw [hX]; intro h; have h2 := congrArg (fun q => q.polls.length) h; simp at h2))
      clear hbox hlen hown hbb hX HT5 HX5 HO5 HX6 HBG HGR
      generalize (w5.setCell ⟨k, 14, none⟩ (.slice ux (c.polls.length + 1) tx)) = W1 at *
      have HRd := Lib.hid (HR.out.on ((Below.refl W1.heap.size W1).drew))
      refine wp_region_held_drew (S := fun w' => CfgBox w' w.heap.size c sl po pt ct ∧ CfgBox w' (w.heap.size + 1) d sl2 po2 pt2 ct2 ∧ CfgBox w' k X (.slice u1 c.slaves.length t1) (.slice ux (c.polls.length + 1) tx) (.slice u3 c.points.length t3) (.slice u4 c.ctls.length t4)) (by kernel_rfl) ⟨HR.out.two.b1, HR.out.two.b2, HR.out.b3⟩ (fun hHeld => ?_)
      refine wpAnyH_ready (rs := [0]) (by kernel_rfl) (by simp) ?_
      refine AllReadyH.cons (o := { dst := some 89, op := Op.call { callee := Callee.value (Operand.func 13), args := #[], argTypes := #[] }, type := 4, pos := "extra.go:106", after := #[], guard := none }) rfl (fun K hK => ?_) AllReadyH.nil
      go_simp
      refine (HFI.out _ (HG.out.on HRd.out.two.below)).mono ?_; rintro e' z0 ⟨rfl, hh⟩; have HR0 := Lib.hid (HRd.out.on hh); clear hh hHeld; simp only []
      refine hK.out _ _ ⟨HR0.out.two.b1, HR0.out.two.b2, HR0.out.b3⟩ (fun hHeld => ?_)
      clear hK K
      (try simp only [Act.put, List.setIfInBounds_toArray, List.set_cons_zero, List.set_cons_succ])
      refine wpAnyH_take (i := 1) (oi := { dst := some 90, op := Op.move (Operand.tmp 89), type := 4, pos := "extra.go:106", after := #[{ on := 0, ground := Ground.data }, { on := 0, ground := Ground.chain }], guard := none }) (v := ?_) rfl (by kernel_rfl) (by kernel_rfl) (by kernel_rfl) (fun _ _ _ h => h) (Or.inl ⟨by rfl, ?_⟩) hHeld ?_
      rotate_left
      · (intro w hSw; (try dsimp only at hSw); go_simp; try with_reducible rfl)
      (try simp only [Act.put, List.setIfInBounds_toArray, List.set_cons_zero, List.set_cons_succ])
      refine wpAnyH_take (i := 2) (oi := { dst := some 91, op := Op.load 28 (Operand.tmp 4), type := 28, pos := "extra.go:106", after := #[{ on := 1, ground := Ground.guard }], guard := some (1, true) }) (v := cfgV c sl po pt ct) rfl (by kernel_rfl) (by kernel_rfl) (by kernel_rfl) (fun _ _ _ h => h) (yl28 (by rfl) _ rfl w.heap.size rfl c sl po pt ct (fun _ h => h.1)) hHeld ?_
      (try simp only [Act.put, List.setIfInBounds_toArray, List.set_cons_zero, List.set_cons_succ])
      refine wpAnyH_take (i := 3) (oi := { dst := some 92, op := Op.load 28 (Operand.tmp 9), type := 28, pos := "extra.go:106", after := #[{ on := 1, ground := Ground.guard }], guard := some (1, true) }) (v := cfgV X (.slice u1 c.slaves.length t1) (.slice ux (c.polls.length + 1) tx) (.slice u3 c.points.length t3) (.slice u4 c.ctls.length t4)) rfl (by kernel_rfl) (by kernel_rfl) (by kernel_rfl) (fun _ _ _ h => h) (yl28 (by rfl) _ rfl k rfl X (.slice u1 c.slaves.length t1) (.slice ux (c.polls.length + 1) tx) (.slice u3 c.points.length t3) (.slice u4 c.ctls.length t4) (fun _ h => h.2.2)) hHeld ?_
      (try simp only [Act.put, List.setIfInBounds_toArray, List.set_cons_zero, List.set_cons_succ])
      refine wpAnyH_ready (rs := [4]) (by kernel_rfl) (by simp) ?_
      refine AllReadyH.cons (o := { dst := some 93, op := Op.call { callee := Callee.value (Operand.func 32), args := #[Operand.tmp 91, Operand.tmp 92], argTypes := #[28, 28] }, type := 4, pos := "extra.go:106", after := #[{ on := 2, ground := Ground.data }, { on := 3, ground := Ground.data }, { on := 1, ground := Ground.chain }, { on := 1, ground := Ground.guard }], guard := some (1, true) }) rfl (fun K hK => ?_) AllReadyH.nil
      go_simp
      refine (same_any c X _ _ _ _ _ _ _ _ _ HR0.out.two.l1 HR0.out.l3 HSOC.out HSX.out).mono ?_; rintro e' z1 ⟨rfl, hh⟩; have HR1 := Lib.hid (HR0.out.on hh); clear hh hHeld; rw [HNE.out]; simp only []
      refine hK.out _ _ ⟨HR1.out.two.b1, HR1.out.two.b2, HR1.out.b3⟩ (fun hHeld => ?_)
      clear hK K
      (try simp only [Act.put, List.setIfInBounds_toArray, List.set_cons_zero, List.set_cons_succ])
      refine wpAnyH_take (i := 5) (oi := { dst := some 94, op := Op.unOp UnOp.not 4 (Operand.tmp 93), type := 4, pos := "extra.go:106", after := #[{ on := 4, ground := Ground.data }, { on := 1, ground := Ground.guard }], guard := some (1, true) }) (v := ?_) rfl (by kernel_rfl) (by kernel_rfl) (by kernel_rfl) (fun _ _ _ h => h) (Or.inl ⟨by rfl, ?_⟩) hHeld ?_
      rotate_left
      · (intro w hSw; (try dsimp only at hSw); go_simp; try with_reducible rfl)
      (try simp only [Act.put, List.setIfInBounds_toArray, List.set_cons_zero, List.set_cons_succ])
      refine wpAnyH_take (i := 6) (oi := { dst := some 95, op := Op.pick (Operand.tmp 90) (Operand.tmp 94) (Operand.const (Value.bool false)), type := 4, pos := "extra.go:106", after := #[{ on := 1, ground := Ground.data }, { on := 5, ground := Ground.data }], guard := none }) (v := ?_) rfl (by kernel_rfl) (by kernel_rfl) (by kernel_rfl) (fun _ _ _ h => h) (Or.inl ⟨by rfl, ?_⟩) hHeld ?_
      rotate_left
      · (intro w hSw; (try dsimp only at hSw); go_simp; try with_reducible rfl)
      (try simp only [Act.put, List.setIfInBounds_toArray, List.set_cons_zero, List.set_cons_succ])
      refine wpAnyH_take (i := 7) (oi := { dst := some 96, op := Op.move (Operand.tmp 95), type := 4, pos := "extra.go:106", after := #[{ on := 6, ground := Ground.data }, { on := 4, ground := Ground.chain }], guard := none }) (v := ?_) rfl (by kernel_rfl) (by kernel_rfl) (by kernel_rfl) (fun _ _ _ h => h) (Or.inl ⟨by rfl, ?_⟩) hHeld ?_
      rotate_left
      · (intro w hSw; (try dsimp only at hSw); go_simp; try with_reducible rfl)
      (try simp only [Act.put, List.setIfInBounds_toArray, List.set_cons_zero, List.set_cons_succ])
      refine wpAnyH_take (i := 8) (oi := { dst := some 97, op := Op.load 28 (Operand.tmp 9), type := 28, pos := "extra.go:106", after := #[{ on := 7, ground := Ground.guard }], guard := some (7, true) }) (v := cfgV X (.slice u1 c.slaves.length t1) (.slice ux (c.polls.length + 1) tx) (.slice u3 c.points.length t3) (.slice u4 c.ctls.length t4)) rfl (by kernel_rfl) (by kernel_rfl) (by kernel_rfl) (fun _ _ _ h => h) (yl28 (by rfl) _ rfl k rfl X (.slice u1 c.slaves.length t1) (.slice ux (c.polls.length + 1) tx) (.slice u3 c.points.length t3) (.slice u4 c.ctls.length t4) (fun _ h => h.2.2)) hHeld ?_
      (try simp only [Act.put, List.setIfInBounds_toArray, List.set_cons_zero, List.set_cons_succ])
      refine wpAnyH_take (i := 9) (oi := { dst := some 98, op := Op.load 28 (Operand.tmp 4), type := 28, pos := "extra.go:106", after := #[{ on := 7, ground := Ground.guard }], guard := some (7, true) }) (v := cfgV c sl po pt ct) rfl (by kernel_rfl) (by kernel_rfl) (by kernel_rfl) (fun _ _ _ h => h) (yl28 (by rfl) _ rfl w.heap.size rfl c sl po pt ct (fun _ h => h.1)) hHeld ?_
      (try simp only [Act.put, List.setIfInBounds_toArray, List.set_cons_zero, List.set_cons_succ])
      refine wpAnyH_ready (rs := [10]) (by kernel_rfl) (by simp) ?_
      refine AllReadyH.cons (o := { dst := some 99, op := Op.call { callee := Callee.value (Operand.func 32), args := #[Operand.tmp 97, Operand.tmp 98], argTypes := #[28, 28] }, type := 4, pos := "extra.go:106", after := #[{ on := 8, ground := Ground.data }, { on := 9, ground := Ground.data }, { on := 7, ground := Ground.chain }, { on := 7, ground := Ground.guard }], guard := some (7, true) }) rfl (fun K hK => ?_) AllReadyH.nil
      go_simp
      refine (same_any X c _ _ _ _ _ _ _ _ _ HR1.out.l3 HR1.out.two.l1 HSX.out HSOC.out).mono ?_; rintro e' z2 ⟨rfl, hh⟩; have HR2 := Lib.hid (HR1.out.on hh); clear hh hHeld; rw [sameN_comm X c, HNE.out]; simp only []
      refine hK.out _ _ ⟨HR2.out.two.b1, HR2.out.two.b2, HR2.out.b3⟩ (fun hHeld => ?_)
      clear hK K
      (try simp only [Act.put, List.setIfInBounds_toArray, List.set_cons_zero, List.set_cons_succ])
      refine wpAnyH_take (i := 11) (oi := { dst := some 100, op := Op.unOp UnOp.not 4 (Operand.tmp 99), type := 4, pos := "extra.go:106", after := #[{ on := 10, ground := Ground.data }, { on := 7, ground := Ground.guard }], guard := some (7, true) }) (v := ?_) rfl (by kernel_rfl) (by kernel_rfl) (by kernel_rfl) (fun _ _ _ h => h) (Or.inl ⟨by rfl, ?_⟩) hHeld ?_
      rotate_left
      · (intro w hSw; (try dsimp only at hSw); go_simp; try with_reducible rfl)
      (try simp only [Act.put, List.setIfInBounds_toArray, List.set_cons_zero, List.set_cons_succ])
      refine wpAnyH_take (i := 12) (oi := { dst := some 101, op := Op.pick (Operand.tmp 96) (Operand.tmp 100) (Operand.const (Value.bool false)), type := 4, pos := "extra.go:106", after := #[{ on := 7, ground := Ground.data }, { on := 11, ground := Ground.data }], guard := none }) (v := ?_) rfl (by kernel_rfl) (by kernel_rfl) (by kernel_rfl) (fun _ _ _ h => h) (Or.inl ⟨by rfl, ?_⟩) hHeld ?_
      rotate_left
      · (intro w hSw; (try dsimp only at hSw); go_simp; try with_reducible rfl)
      (try simp only [Act.put, List.setIfInBounds_toArray, List.set_cons_zero, List.set_cons_succ])
      refine wpAnyH_take (i := 13) (oi := { dst := some 102, op := Op.move (Operand.tmp 101), type := 4, pos := "extra.go:106", after := #[{ on := 12, ground := Ground.data }, { on := 10, ground := Ground.chain }], guard := none }) (v := ?_) rfl (by kernel_rfl) (by kernel_rfl) (by kernel_rfl) (fun _ _ _ h => h) (Or.inl ⟨by rfl, ?_⟩) hHeld ?_
      rotate_left
      · (intro w hSw; (try dsimp only at hSw); go_simp; try with_reducible rfl)
      (try simp only [Act.put, List.setIfInBounds_toArray, List.set_cons_zero, List.set_cons_succ])
      refine wpAnyH_take (i := 14) (oi := { dst := some 103, op := Op.load 28 (Operand.tmp 4), type := 28, pos := "extra.go:106", after := #[{ on := 13, ground := Ground.guard }], guard := some (13, true) }) (v := cfgV c sl po pt ct) rfl (by kernel_rfl) (by kernel_rfl) (by kernel_rfl) (fun _ _ _ h => h) (yl28 (by rfl) _ rfl w.heap.size rfl c sl po pt ct (fun _ h => h.1)) hHeld ?_
      (try simp only [Act.put, List.setIfInBounds_toArray, List.set_cons_zero, List.set_cons_succ])
      refine wpAnyH_take (i := 15) (oi := { dst := some 104, op := Op.load 28 (Operand.tmp 5), type := 28, pos := "extra.go:106", after := #[{ on := 13, ground := Ground.guard }], guard := some (13, true) }) (v := cfgV d sl2 po2 pt2 ct2) rfl (by kernel_rfl) (by kernel_rfl) (by kernel_rfl) (fun _ _ _ h => h) (yl28 (by rfl) _ rfl (w.heap.size + 1) rfl d sl2 po2 pt2 ct2 (fun _ h => h.2.1)) hHeld ?_
      (try simp only [Act.put, List.setIfInBounds_toArray, List.set_cons_zero, List.set_cons_succ])
      refine wpAnyH_take (i := 17) (oi := { dst := some 106, op := Op.load 28 (Operand.tmp 5), type := 28, pos := "extra.go:106", after := #[{ on := 13, ground := Ground.guard }], guard := some (13, true) }) (v := cfgV d sl2 po2 pt2 ct2) rfl (by kernel_rfl) (by kernel_rfl) (by kernel_rfl) (fun _ _ _ h => h) (yl28 (by rfl) _ rfl (w.heap.size + 1) rfl d sl2 po2 pt2 ct2 (fun _ h => h.2.1)) hHeld ?_
      (try simp only [Act.put, List.setIfInBounds_toArray, List.set_cons_zero, List.set_cons_succ])
      refine wpAnyH_take (i := 18) (oi := { dst := some 107, op := Op.load 28 (Operand.tmp 4), type := 28, pos := "extra.go:106", after := #[{ on := 13, ground := Ground.guard }], guard := some (13, true) }) (v := cfgV c sl po pt ct) rfl (by kernel_rfl) (by kernel_rfl) (by kernel_rfl) (fun _ _ _ h => h) (yl28 (by rfl) _ rfl w.heap.size rfl c sl po pt ct (fun _ h => h.1)) hHeld ?_
      (try simp only [Act.put, List.setIfInBounds_toArray, List.set_cons_zero, List.set_cons_succ])
      refine wpAnyH_ready (rs := [16]) (by kernel_rfl) (by simp) ?_
      refine AllReadyH.cons (o := { dst := some 105, op := Op.call { callee := Callee.value (Operand.func 32), args := #[Operand.tmp 103, Operand.tmp 104], argTypes := #[28, 28] }, type := 4, pos := "extra.go:106", after := #[{ on := 14, ground := Ground.data }, { on := 15, ground := Ground.data }, { on := 13, ground := Ground.chain }, { on := 13, ground := Ground.guard }], guard := some (13, true) }) rfl (fun K hK => ?_) AllReadyH.nil
      go_simp
      refine (same_any c d _ _ _ _ _ _ _ _ _ HR2.out.two.l1 HR2.out.two.l2 HSOC.out HSO2.out).mono ?_; rintro e' z3 ⟨rfl, hh⟩; have HR3 := Lib.hid (HR2.out.on hh); clear hh hHeld; simp only []
      refine hK.out _ _ ⟨HR3.out.two.b1, HR3.out.two.b2, HR3.out.b3⟩ (fun hHeld => ?_)
      clear hK K
      (try simp only [Act.put, List.setIfInBounds_toArray, List.set_cons_zero, List.set_cons_succ])
      refine wpAnyH_ready (rs := [19]) (by kernel_rfl) (by simp) ?_
      refine AllReadyH.cons (o := { dst := some 108, op := Op.call { callee := Callee.value (Operand.func 32), args := #[Operand.tmp 106, Operand.tmp 107], argTypes := #[28, 28] }, type := 4, pos := "extra.go:106", after := #[{ on := 17, ground := Ground.data }, { on := 18, ground := Ground.data }, { on := 16, ground := Ground.chain }, { on := 13, ground := Ground.guard }], guard := some (13, true) }) rfl (fun K hK => ?_) AllReadyH.nil
      go_simp
      refine (same_any d c _ _ _ _ _ _ _ _ _ HR3.out.two.l2 HR3.out.two.l1 HSO2.out HSOC.out).mono ?_; rintro e' z4 ⟨rfl, hh⟩; have HR4 := Lib.hid (HR3.out.on hh); clear hh hHeld; rw [sameN_comm d c]; simp only []
      refine hK.out _ _ ⟨HR4.out.two.b1, HR4.out.two.b2, HR4.out.b3⟩ (fun hHeld => ?_)
      clear hK K
      (try simp only [Act.put, List.setIfInBounds_toArray, List.set_cons_zero, List.set_cons_succ])
      generalize sameN c d = sb
      cases sb
      · refine wpAnyH_take (i := 20) (oi := { dst := some 109, op := Op.binOp BinOp.eql 4 (Operand.tmp 105) (Operand.tmp 108) 4, type := 4, pos := "extra.go:106", after := #[{ on := 16, ground := Ground.data }, { on := 19, ground := Ground.data }, { on := 13, ground := Ground.guard }], guard := some (13, true) }) (v := ?_) rfl (by kernel_rfl) (by kernel_rfl) (by kernel_rfl) (fun _ _ _ h => h) (Or.inl ⟨by rfl, ?_⟩) hHeld ?_
        rotate_left
        · (intro w hSw; (try dsimp only at hSw); go_simp; try with_reducible rfl)
        (try simp only [Act.put, List.setIfInBounds_toArray, List.set_cons_zero, List.set_cons_succ])
        refine wpAnyH_take (i := 21) (oi := { dst := some 110, op := Op.pick (Operand.tmp 102) (Operand.tmp 109) (Operand.const (Value.bool false)), type := 4, pos := "extra.go:106", after := #[{ on := 13, ground := Ground.data }, { on := 20, ground := Ground.data }], guard := none }) (v := ?_) rfl (by kernel_rfl) (by kernel_rfl) (by kernel_rfl) (fun _ _ _ h => h) (Or.inl ⟨by rfl, ?_⟩) hHeld ?_
        rotate_left
        · (intro w hSw; (try dsimp only at hSw); go_simp; try with_reducible rfl)
        (try simp only [Act.put, List.setIfInBounds_toArray, List.set_cons_zero, List.set_cons_succ])
        refine wpAnyH_take (i := 22) (oi := { dst := some 8, op := Op.assign (Operand.tmp 110), type := 4, pos := "extra.go:106", after := #[{ on := 21, ground := Ground.data }, { on := 19, ground := Ground.chain }, { on := 0, ground := Ground.phase }, { on := 1, ground := Ground.phase }, { on := 2, ground := Ground.phase }, { on := 3, ground := Ground.phase }, { on := 4, ground := Ground.phase }, { on := 5, ground := Ground.phase }, { on := 6, ground := Ground.phase }, { on := 7, ground := Ground.phase }, { on := 8, ground := Ground.phase }, { on := 9, ground := Ground.phase }, { on := 10, ground := Ground.phase }, { on := 11, ground := Ground.phase }, { on := 12, ground := Ground.phase }, { on := 13, ground := Ground.phase }, { on := 14, ground := Ground.phase }, { on := 15, ground := Ground.phase }, { on := 16, ground := Ground.phase }, { on := 17, ground := Ground.phase }, { on := 18, ground := Ground.phase }, { on := 19, ground := Ground.phase }, { on := 20, ground := Ground.phase }, { on := 21, ground := Ground.phase }], guard := none }) (v := ?_) rfl (by kernel_rfl) (by kernel_rfl) (by kernel_rfl) (fun _ _ _ h => h) (Or.inl ⟨by rfl, ?_⟩) hHeld ?_
        rotate_left
        · (intro w hSw; (try dsimp only at hSw); go_simp; try with_reducible rfl)
        (try simp only [Act.put, List.setIfInBounds_toArray, List.set_cons_zero, List.set_cons_succ])
        refine wpAnyH_done (by kernel_rfl) ?_ _
        go_wp2
        go_ret
        exact ⟨rfl, HR4.out.two.below⟩
      · refine wpAnyH_take (i := 20) (oi := { dst := some 109, op := Op.binOp BinOp.eql 4 (Operand.tmp 105) (Operand.tmp 108) 4, type := 4, pos := "extra.go:106", after := #[{ on := 16, ground := Ground.data }, { on := 19, ground := Ground.data }, { on := 13, ground := Ground.guard }], guard := some (13, true) }) (v := ?_) rfl (by kernel_rfl) (by kernel_rfl) (by kernel_rfl) (fun _ _ _ h => h) (Or.inl ⟨by rfl, ?_⟩) hHeld ?_
        rotate_left
        · (intro w hSw; (try dsimp only at hSw); go_simp; try with_reducible rfl)
        (try simp only [Act.put, List.setIfInBounds_toArray, List.set_cons_zero, List.set_cons_succ])
        refine wpAnyH_take (i := 21) (oi := { dst := some 110, op := Op.pick (Operand.tmp 102) (Operand.tmp 109) (Operand.const (Value.bool false)), type := 4, pos := "extra.go:106", after := #[{ on := 13, ground := Ground.data }, { on := 20, ground := Ground.data }], guard := none }) (v := ?_) rfl (by kernel_rfl) (by kernel_rfl) (by kernel_rfl) (fun _ _ _ h => h) (Or.inl ⟨by rfl, ?_⟩) hHeld ?_
        rotate_left
        · (intro w hSw; (try dsimp only at hSw); go_simp; try with_reducible rfl)
        (try simp only [Act.put, List.setIfInBounds_toArray, List.set_cons_zero, List.set_cons_succ])
        refine wpAnyH_take (i := 22) (oi := { dst := some 8, op := Op.assign (Operand.tmp 110), type := 4, pos := "extra.go:106", after := #[{ on := 21, ground := Ground.data }, { on := 19, ground := Ground.chain }, { on := 0, ground := Ground.phase }, { on := 1, ground := Ground.phase }, { on := 2, ground := Ground.phase }, { on := 3, ground := Ground.phase }, { on := 4, ground := Ground.phase }, { on := 5, ground := Ground.phase }, { on := 6, ground := Ground.phase }, { on := 7, ground := Ground.phase }, { on := 8, ground := Ground.phase }, { on := 9, ground := Ground.phase }, { on := 10, ground := Ground.phase }, { on := 11, ground := Ground.phase }, { on := 12, ground := Ground.phase }, { on := 13, ground := Ground.phase }, { on := 14, ground := Ground.phase }, { on := 15, ground := Ground.phase }, { on := 16, ground := Ground.phase }, { on := 17, ground := Ground.phase }, { on := 18, ground := Ground.phase }, { on := 19, ground := Ground.phase }, { on := 20, ground := Ground.phase }, { on := 21, ground := Ground.phase }], guard := none }) (v := ?_) rfl (by kernel_rfl) (by kernel_rfl) (by kernel_rfl) (fun _ _ _ h => h) (Or.inl ⟨by rfl, ?_⟩) hHeld ?_
        rotate_left
        · (intro w hSw; (try dsimp only at hSw); go_simp; try with_reducible rfl)
        (try simp only [Act.put, List.setIfInBounds_toArray, List.set_cons_zero, List.set_cons_succ])
        refine wpAnyH_done (by kernel_rfl) ?_ _
        go_wp2
        go_ret
        exact ⟨rfl, HR4.out.two.below⟩
    · obtain ⟨X, hX⟩ : ∃ X : Cfg, X = { c with points := c.points ++ [⟨0, 0, 0, 0, 0, 0, 0, more⟩] } := ⟨_, rfl⟩
      obtain ⟨v', w5, happ, hgr⟩ := app_row appT_point (W.alloc (.cells #[.int .i64 0, .int .i64 0, .int .i64 0, .int .i64 0, .int .i64 0, .int .i64 0, .int .i64 0, .int .i64 more] 62)) w3.heap.size (.slice u3 c.points.length t3) (.slice (some ⟨W.heap.size, 0, none⟩) 1 1) c.points.length 1 (ptCells c.points) [.int .i64 0, .int .i64 0, .int .i64 0, .int .i64 0, .int .i64 0, .int .i64 0, .int .i64 0, .int .i64 more] (HO5.out.pt.alloc _) (lit_lies W [.int .i64 0, .int .i64 0, .int .i64 0, .int .i64 0, .int .i64 0, .int .i64 0, .int .i64 0, .int .i64 more] 62) rfl (by intro u hu; simp at hu; first | (subst hu; rfl) | (rcases hu with rfl | rfl <;> rfl)) (by have := HSZ.out.1; simp; omega) (by have := HSOC.out.2.2.1; omega) (by omega)
      have HGR := Lib.hid hgr
      obtain ⟨ux, tx, rfl⟩ := own_slice hgr.1
      clear hgr
      have hX5 : CfgBox (W.alloc (.cells #[.int .i64 0, .int .i64 0, .int .i64 0, .int .i64 0, .int .i64 0, .int .i64 0, .int .i64 0, .int .i64 more] 62)) k c (.slice u1 c.slaves.length t1) (.slice u2 c.polls.length t2) (.slice u3 c.points.length t3) (.slice u4 c.ctls.length t4) := keep_heap (below_new W _) HX5.out
      have HX6 : Hid (CfgBox w5 k c (.slice u1 c.slaves.length t1) (.slice u2 c.polls.length t2) (.slice u3 c.points.length t3) (.slice u4 c.ctls.length t4)) := Lib.hid (HGR.out.box (HO5.out.pt.alloc _) hX5 (by decide))
      have HBG : Hid (CfgBox w5 w.heap.size c sl po pt ct ∧ CfgBox w5 (w.heap.size + 1) d sl2 po2 pt2 ct2) := Lib.hid ⟨HGR.out.box (HO5.out.pt.alloc _) (keep_heap (below_new W _) HT5.out.b1) (by decide), HGR.out.box (HO5.out.pt.alloc _) (keep_heap (below_new W _) HT5.out.b2) (by decide)⟩
      have s0 := cells_of hX5 15 _ rfl
      clear hX5
      have s1 := cells_of HX6.out 15 _ rfl
      have f1 : w5.frozen? ⟨k, 15, none⟩ = false := frozen_of_row _ _ _ _ _ HX6.out
      have s2 := cells_of HX5.out 15 _ rfl
      go_wp2_with (at_builtin; refine Lib.wpList_append_run _ rfl _ _ _ _ rfl _ _ rfl rfl _ _ happ ?_)
      clear s0 s1 s2 f1 happ
      have hbox : CfgBox (w5.setCell ⟨k, 15, none⟩ (.slice ux (c.points.length + 1) tx)) k X (.slice u1 c.slaves.length t1) (.slice u2 c.polls.length t2) (.slice ux (c.points.length + 1) tx) (.slice u4 c.ctls.length t4) := by rw [hX]; exact heap_set _ _ _ _ _ _ _ HX6.out
      have hlen : X.points.length = c.points.length + 1 := by rw [hX]; simp
      have hown : OwnLists (w5.setCell ⟨k, 15, none⟩ (.slice ux (c.points.length + 1) tx)) w3.heap.size X (.slice u1 c.slaves.length t1) (.slice u2 c.polls.length t2) (.slice ux (c.points.length + 1) tx) (.slice u4 c.ctls.length t4) := by
        rw [hX]
        refine ⟨?_, ?_, ?_, ?_⟩
        · exact own_set (HGR.out.row2 (HO5.out.pt.alloc _) (HO5.out.sl.alloc _) (by decide)) HX6.out (by decide) _
        · exact own_set (HGR.out.row2 (HO5.out.pt.alloc _) (HO5.out.po.alloc _) (by decide)) HX6.out (by decide) _
        · have := own_set (o := 15) (u := (.slice ux (c.points.length + 1) tx)) HGR.out.1 HX6.out (by decide)
          have e : ptCells (c.points ++ [⟨0, 0, 0, 0, 0, 0, 0, more⟩]) = ptCells c.points ++ [.int .i64 0, .int .i64 0, .int .i64 0, .int .i64 0, .int .i64 0, .int .i64 0, .int .i64 0, .int .i64 more] := by rw [ptCells_append]; rfl
          simp only [List.length_append, List.length_singleton]
          rw [e]
          exact this
        · exact own_set (HGR.out.row2 (HO5.out.pt.alloc _) (HO5.out.ct.alloc _) (by decide)) HX6.out (by decide) _
      have hbb : Below w.heap.size w (w5.setCell ⟨k, 15, none⟩ (.slice ux (c.points.length + 1) tx)) := (HT5.out.below.trans (below_two HB3.out HSZ.out.1 (below_new W _) (HGR.out.below (HO5.out.pt.alloc _) (by have := HSZ.out.1; simp; omega)))).trans (below_set _ _ _ _ _ (by have := HSZ.out.2; omega))
      have HR : Hid (ThreeIn w w3.heap.size w.heap.size (w.heap.size + 1) k c d X sl po pt ct sl2 po2 pt2 ct2 (.slice u1 c.slaves.length t1) (.slice u2 c.polls.length t2) (.slice ux (c.points.length + 1) tx) (.slice u4 c.ctls.length t4) (w5.setCell ⟨k, 15, none⟩ (.slice ux (c.points.length + 1) tx))) := Lib.hid ⟨⟨hbb, box_set HBG.out.1 (by have := HSZ.out.2; omega), box_set HBG.out.2 (by have := HSZ.out.2; omega), HL0.out.1.on hbb, HL0.out.2.on hbb⟩, hbox, hown.lists⟩
      have HSX : Hid (SomeC X) := Lib.hid (by rw [hX]; have := HF.out.1; unfold SomeC; unfold FewC at this; simp; omega)
      have HNE : Hid (sameN c X = false) := Lib.hid (sameN_ne (by rw [hX]; intro h; have h2 := congrArg (fun q => q.points.length) h; simp at h2))
      clear hbox hlen hown hbb hX HT5 HX5 HO5 HX6 HBG HGR
      generalize (w5.setCell ⟨k, 15, none⟩ (.slice ux (c.points.length + 1) tx)) = W1 at *
      have HRd := Lib.hid (HR.out.on ((Below.refl W1.heap.size W1).drew))
      refine wp_region_held_drew (S := fun w' => CfgBox w' w.heap.size c sl po pt ct ∧ CfgBox w' (w.heap.size + 1) d sl2 po2 pt2 ct2 ∧ CfgBox w' k X (.slice u1 c.slaves.length t1) (.slice u2 c.polls.length t2) (.slice ux (c.points.length + 1) tx) (.slice u4 c.ctls.length t4)) (by kernel_rfl) ⟨HR.out.two.b1, HR.out.two.b2, HR.out.b3⟩ (fun hHeld => ?_)
      refine wpAnyH_ready (rs := [0]) (by kernel_rfl) (by simp) ?_
      refine AllReadyH.cons (o := { dst := some 89, op := Op.call { callee := Callee.value (Operand.func 13), args := #[], argTypes := #[] }, type := 4, pos := "extra.go:106", after := #[], guard := none }) rfl (fun K hK => ?_) AllReadyH.nil
      go_simp
      refine (HFI.out _ (HG.out.on HRd.out.two.below)).mono ?_; rintro e' z0 ⟨rfl, hh⟩; have HR0 := Lib.hid (HRd.out.on hh); clear hh hHeld; simp only []
      refine hK.out _ _ ⟨HR0.out.two.b1, HR0.out.two.b2, HR0.out.b3⟩ (fun hHeld => ?_)
      clear hK K
      (try simp only [Act.put, List.setIfInBounds_toArray, List.set_cons_zero, List.set_cons_succ])
      refine wpAnyH_take (i := 1) (oi := { dst := some 90, op := Op.move (Operand.tmp 89), type := 4, pos := "extra.go:106", after := #[{ on := 0, ground := Ground.data }, { on := 0, ground := Ground.chain }], guard := none }) (v := ?_) rfl (by kernel_rfl) (by kernel_rfl) (by kernel_rfl) (fun _ _ _ h => h) (Or.inl ⟨by rfl, ?_⟩) hHeld ?_
      rotate_left
      · (intro w hSw; (try dsimp only at hSw); go_simp; try with_reducible rfl)
      (try simp only [Act.put, List.setIfInBounds_toArray, List.set_cons_zero, List.set_cons_succ])
      refine wpAnyH_take (i := 2) (oi := { dst := some 91, op := Op.load 28 (Operand.tmp 4), type := 28, pos := "extra.go:106", after := #[{ on := 1, ground := Ground.guard }], guard := some (1, true) }) (v := cfgV c sl po pt ct) rfl (by kernel_rfl) (by kernel_rfl) (by kernel_rfl) (fun _ _ _ h => h) (yl28 (by rfl) _ rfl w.heap.size rfl c sl po pt ct (fun _ h => h.1)) hHeld ?_
      (try simp only [Act.put, List.setIfInBounds_toArray, List.set_cons_zero, List.set_cons_succ])
      refine wpAnyH_take (i := 3) (oi := { dst := some 92, op := Op.load 28 (Operand.tmp 9), type := 28, pos := "extra.go:106", after := #[{ on := 1, ground := Ground.guard }], guard := some (1, true) }) (v := cfgV X (.slice u1 c.slaves.length t1) (.slice u2 c.polls.length t2) (.slice ux (c.points.length + 1) tx) (.slice u4 c.ctls.length t4)) rfl (by kernel_rfl) (by kernel_rfl) (by kernel_rfl) (fun _ _ _ h => h) (yl28 (by rfl) _ rfl k rfl X (.slice u1 c.slaves.length t1) (.slice u2 c.polls.length t2) (.slice ux (c.points.length + 1) tx) (.slice u4 c.ctls.length t4) (fun _ h => h.2.2)) hHeld ?_
      (try simp only [Act.put, List.setIfInBounds_toArray, List.set_cons_zero, List.set_cons_succ])
      refine wpAnyH_ready (rs := [4]) (by kernel_rfl) (by simp) ?_
      refine AllReadyH.cons (o := { dst := some 93, op := Op.call { callee := Callee.value (Operand.func 32), args := #[Operand.tmp 91, Operand.tmp 92], argTypes := #[28, 28] }, type := 4, pos := "extra.go:106", after := #[{ on := 2, ground := Ground.data }, { on := 3, ground := Ground.data }, { on := 1, ground := Ground.chain }, { on := 1, ground := Ground.guard }], guard := some (1, true) }) rfl (fun K hK => ?_) AllReadyH.nil
      go_simp
      refine (same_any c X _ _ _ _ _ _ _ _ _ HR0.out.two.l1 HR0.out.l3 HSOC.out HSX.out).mono ?_; rintro e' z1 ⟨rfl, hh⟩; have HR1 := Lib.hid (HR0.out.on hh); clear hh hHeld; rw [HNE.out]; simp only []
      refine hK.out _ _ ⟨HR1.out.two.b1, HR1.out.two.b2, HR1.out.b3⟩ (fun hHeld => ?_)
      clear hK K
      (try simp only [Act.put, List.setIfInBounds_toArray, List.set_cons_zero, List.set_cons_succ])
      refine wpAnyH_take (i := 5) (oi := { dst := some 94, op := Op.unOp UnOp.not 4 (Operand.tmp 93), type := 4, pos := "extra.go:106", after := #[{ on := 4, ground := Ground.data }, { on := 1, ground := Ground.guard }], guard := some (1, true) }) (v := ?_) rfl (by kernel_rfl) (by kernel_rfl) (by kernel_rfl) (fun _ _ _ h => h) (Or.inl ⟨by rfl, ?_⟩) hHeld ?_
      rotate_left
      · (intro w hSw; (try dsimp only at hSw); go_simp; try with_reducible rfl)
      (try simp only [Act.put, List.setIfInBounds_toArray, List.set_cons_zero, List.set_cons_succ])
      refine wpAnyH_take (i := 6) (oi := { dst := some 95, op := Op.pick (Operand.tmp 90) (Operand.tmp 94) (Operand.const (Value.bool false)), type := 4, pos := "extra.go:106", after := #[{ on := 1, ground := Ground.data }, { on := 5, ground := Ground.data }], guard := none }) (v := ?_) rfl (by kernel_rfl) (by kernel_rfl) (by kernel_rfl) (fun _ _ _ h => h) (Or.inl ⟨by rfl, ?_⟩) hHeld ?_
      rotate_left
      · (intro w hSw; (try dsimp only at hSw); go_simp; try with_reducible rfl)
      (try simp only [Act.put, List.setIfInBounds_toArray, List.set_cons_zero, List.set_cons_succ])
      refine wpAnyH_take (i := 7) (oi := { dst := some 96, op := Op.move (Operand.tmp 95), type := 4, pos := "extra.go:106", after := #[{ on := 6, ground := Ground.data }, { on := 4, ground := Ground.chain }], guard := none }) (v := ?_) rfl (by kernel_rfl) (by kernel_rfl) (by kernel_rfl) (fun _ _ _ h => h) (Or.inl ⟨by rfl, ?_⟩) hHeld ?_
      rotate_left
      · (intro w hSw; (try dsimp only at hSw); go_simp; try with_reducible rfl)
      (try simp only [Act.put, List.setIfInBounds_toArray, List.set_cons_zero, List.set_cons_succ])
      refine wpAnyH_take (i := 8) (oi := { dst := some 97, op := Op.load 28 (Operand.tmp 9), type := 28, pos := "extra.go:106", after := #[{ on := 7, ground := Ground.guard }], guard := some (7, true) }) (v := cfgV X (.slice u1 c.slaves.length t1) (.slice u2 c.polls.length t2) (.slice ux (c.points.length + 1) tx) (.slice u4 c.ctls.length t4)) rfl (by kernel_rfl) (by kernel_rfl) (by kernel_rfl) (fun _ _ _ h => h) (yl28 (by rfl) _ rfl k rfl X (.slice u1 c.slaves.length t1) (.slice u2 c.polls.length t2) (.slice ux (c.points.length + 1) tx) (.slice u4 c.ctls.length t4) (fun _ h => h.2.2)) hHeld ?_
      (try simp only [Act.put, List.setIfInBounds_toArray, List.set_cons_zero, List.set_cons_succ])
      refine wpAnyH_take (i := 9) (oi := { dst := some 98, op := Op.load 28 (Operand.tmp 4), type := 28, pos := "extra.go:106", after := #[{ on := 7, ground := Ground.guard }], guard := some (7, true) }) (v := cfgV c sl po pt ct) rfl (by kernel_rfl) (by kernel_rfl) (by kernel_rfl) (fun _ _ _ h => h) (yl28 (by rfl) _ rfl w.heap.size rfl c sl po pt ct (fun _ h => h.1)) hHeld ?_
      (try simp only [Act.put, List.setIfInBounds_toArray, List.set_cons_zero, List.set_cons_succ])
      refine wpAnyH_ready (rs := [10]) (by kernel_rfl) (by simp) ?_
      refine AllReadyH.cons (o := { dst := some 99, op := Op.call { callee := Callee.value (Operand.func 32), args := #[Operand.tmp 97, Operand.tmp 98], argTypes := #[28, 28] }, type := 4, pos := "extra.go:106", after := #[{ on := 8, ground := Ground.data }, { on := 9, ground := Ground.data }, { on := 7, ground := Ground.chain }, { on := 7, ground := Ground.guard }], guard := some (7, true) }) rfl (fun K hK => ?_) AllReadyH.nil
      go_simp
      refine (same_any X c _ _ _ _ _ _ _ _ _ HR1.out.l3 HR1.out.two.l1 HSX.out HSOC.out).mono ?_; rintro e' z2 ⟨rfl, hh⟩; have HR2 := Lib.hid (HR1.out.on hh); clear hh hHeld; rw [sameN_comm X c, HNE.out]; simp only []
      refine hK.out _ _ ⟨HR2.out.two.b1, HR2.out.two.b2, HR2.out.b3⟩ (fun hHeld => ?_)
      clear hK K
      (try simp only [Act.put, List.setIfInBounds_toArray, List.set_cons_zero, List.set_cons_succ])
      refine wpAnyH_take (i := 11) (oi := { dst := some 100, op := Op.unOp UnOp.not 4 (Operand.tmp 99), type := 4, pos := "extra.go:106", after := #[{ on := 10, ground := Ground.data }, { on := 7, ground := Ground.guard }], guard := some (7, true) }) (v := ?_) rfl (by kernel_rfl) (by kernel_rfl) (by kernel_rfl) (fun _ _ _ h => h) (Or.inl ⟨by rfl, ?_⟩) hHeld ?_
      rotate_left
      · (intro w hSw; (try dsimp only at hSw); go_simp; try with_reducible rfl)
      (try simp only [Act.put, List.setIfInBounds_toArray, List.set_cons_zero, List.set_cons_succ])
      refine wpAnyH_take (i := 12) (oi := { dst := some 101, op := Op.pick (Operand.tmp 96) (Operand.tmp 100) (Operand.const (Value.bool false)), type := 4, pos := "extra.go:106", after := #[{ on := 7, ground := Ground.data }, { on := 11, ground := Ground.data }], guard := none }) (v := ?_) rfl (by kernel_rfl) (by kernel_rfl) (by kernel_rfl) (fun _ _ _ h => h) (Or.inl ⟨by rfl, ?_⟩) hHeld ?_
      rotate_left
      · (intro w hSw; (try dsimp only at hSw); go_simp; try with_reducible rfl)
      (try simp only [Act.put, List.setIfInBounds_toArray, List.set_cons_zero, List.set_cons_succ])
      refine wpAnyH_take (i := 13) (oi := { dst := some 102, op := Op.move (Operand.tmp 101), type := 4, pos := "extra.go:106", after := #[{ on := 12, ground := Ground.data }, { on := 10, ground := Ground.chain }], guard := none }) (v := ?_) rfl (by kernel_rfl) (by kernel_rfl) (by kernel_rfl) (fun _ _ _ h => h) (Or.inl ⟨by rfl, ?_⟩) hHeld ?_
      rotate_left
      · (intro w hSw; (try dsimp only at hSw); go_simp; try with_reducible rfl)
      (try simp only [Act.put, List.setIfInBounds_toArray, List.set_cons_zero, List.set_cons_succ])
      refine wpAnyH_take (i := 14) (oi := { dst := some 103, op := Op.load 28 (Operand.tmp 4), type := 28, pos := "extra.go:106", after := #[{ on := 13, ground := Ground.guard }], guard := some (13, true) }) (v := cfgV c sl po pt ct) rfl (by kernel_rfl) (by kernel_rfl) (by kernel_rfl) (fun _ _ _ h => h) (yl28 (by rfl) _ rfl w.heap.size rfl c sl po pt ct (fun _ h => h.1)) hHeld ?_
      (try simp only [Act.put, List.setIfInBounds_toArray, List.set_cons_zero, List.set_cons_succ])
      refine wpAnyH_take (i := 15) (oi := { dst := some 104, op := Op.load 28 (Operand.tmp 5), type := 28, pos := "extra.go:106", after := #[{ on := 13, ground := Ground.guard }], guard := some (13, true) }) (v := cfgV d sl2 po2 pt2 ct2) rfl (by kernel_rfl) (by kernel_rfl) (by kernel_rfl) (fun _ _ _ h => h) (yl28 (by rfl) _ rfl (w.heap.size + 1) rfl d sl2 po2 pt2 ct2 (fun _ h => h.2.1)) hHeld ?_
      (try simp only [Act.put, List.setIfInBounds_toArray, List.set_cons_zero, List.set_cons_succ])
      refine wpAnyH_take (i := 17) (oi := { dst := some 106, op := Op.load 28 (Operand.tmp 5), type := 28, pos := "extra.go:106", after := #[{ on := 13, ground := Ground.guard }], guard := some (13, true) }) (v := cfgV d sl2 po2 pt2 ct2) rfl (by kernel_rfl) (by kernel_rfl) (by kernel_rfl) (fun _ _ _ h => h) (yl28 (by rfl) _ rfl (w.heap.size + 1) rfl d sl2 po2 pt2 ct2 (fun _ h => h.2.1)) hHeld ?_
      (try simp only [Act.put, List.setIfInBounds_toArray, List.set_cons_zero, List.set_cons_succ])
      refine wpAnyH_take (i := 18) (oi := { dst := some 107, op := Op.load 28 (Operand.tmp 4), type := 28, pos := "extra.go:106", after := #[{ on := 13, ground := Ground.guard }], guard := some (13, true) }) (v := cfgV c sl po pt ct) rfl (by kernel_rfl) (by kernel_rfl) (by kernel_rfl) (fun _ _ _ h => h) (yl28 (by rfl) _ rfl w.heap.size rfl c sl po pt ct (fun _ h => h.1)) hHeld ?_
      (try simp only [Act.put, List.setIfInBounds_toArray, List.set_cons_zero, List.set_cons_succ])
      refine wpAnyH_ready (rs := [16]) (by kernel_rfl) (by simp) ?_
      refine AllReadyH.cons (o := { dst := some 105, op := Op.call { callee := Callee.value (Operand.func 32), args := #[Operand.tmp 103, Operand.tmp 104], argTypes := #[28, 28] }, type := 4, pos := "extra.go:106", after := #[{ on := 14, ground := Ground.data }, { on := 15, ground := Ground.data }, { on := 13, ground := Ground.chain }, { on := 13, ground := Ground.guard }], guard := some (13, true) }) rfl (fun K hK => ?_) AllReadyH.nil
      go_simp
      refine (same_any c d _ _ _ _ _ _ _ _ _ HR2.out.two.l1 HR2.out.two.l2 HSOC.out HSO2.out).mono ?_; rintro e' z3 ⟨rfl, hh⟩; have HR3 := Lib.hid (HR2.out.on hh); clear hh hHeld; simp only []
      refine hK.out _ _ ⟨HR3.out.two.b1, HR3.out.two.b2, HR3.out.b3⟩ (fun hHeld => ?_)
      clear hK K
      (try simp only [Act.put, List.setIfInBounds_toArray, List.set_cons_zero, List.set_cons_succ])
      refine wpAnyH_ready (rs := [19]) (by kernel_rfl) (by simp) ?_
      refine AllReadyH.cons (o := { dst := some 108, op := Op.call { callee := Callee.value (Operand.func 32), args := #[Operand.tmp 106, Operand.tmp 107], argTypes := #[28, 28] }, type := 4, pos := "extra.go:106", after := #[{ on := 17, ground := Ground.data }, { on := 18, ground := Ground.data }, { on := 16, ground := Ground.chain }, { on := 13, ground := Ground.guard }], guard := some (13, true) }) rfl (fun K hK => ?_) AllReadyH.nil
      go_simp
      refine (same_any d c _ _ _ _ _ _ _ _ _ HR3.out.two.l2 HR3.out.two.l1 HSO2.out HSOC.out).mono ?_; rintro e' z4 ⟨rfl, hh⟩; have HR4 := Lib.hid (HR3.out.on hh); clear hh hHeld; rw [sameN_comm d c]; simp only []
      refine hK.out _ _ ⟨HR4.out.two.b1, HR4.out.two.b2, HR4.out.b3⟩ (fun hHeld => ?_)
      clear hK K
      (try simp only [Act.put, List.setIfInBounds_toArray, List.set_cons_zero, List.set_cons_succ])
      generalize sameN c d = sb
      cases sb
      · refine wpAnyH_take (i := 20) (oi := { dst := some 109, op := Op.binOp BinOp.eql 4 (Operand.tmp 105) (Operand.tmp 108) 4, type := 4, pos := "extra.go:106", after := #[{ on := 16, ground := Ground.data }, { on := 19, ground := Ground.data }, { on := 13, ground := Ground.guard }], guard := some (13, true) }) (v := ?_) rfl (by kernel_rfl) (by kernel_rfl) (by kernel_rfl) (fun _ _ _ h => h) (Or.inl ⟨by rfl, ?_⟩) hHeld ?_
        rotate_left
        · (intro w hSw; (try dsimp only at hSw); go_simp; try with_reducible rfl)
        (try simp only [Act.put, List.setIfInBounds_toArray, List.set_cons_zero, List.set_cons_succ])
        refine wpAnyH_take (i := 21) (oi := { dst := some 110, op := Op.pick (Operand.tmp 102) (Operand.tmp 109) (Operand.const (Value.bool false)), type := 4, pos := "extra.go:106", after := #[{ on := 13, ground := Ground.data }, { on := 20, ground := Ground.data }], guard := none }) (v := ?_) rfl (by kernel_rfl) (by kernel_rfl) (by kernel_rfl) (fun _ _ _ h => h) (Or.inl ⟨by rfl, ?_⟩) hHeld ?_
        rotate_left
        · (intro w hSw; (try dsimp only at hSw); go_simp; try with_reducible rfl)
        (try simp only [Act.put, List.setIfInBounds_toArray, List.set_cons_zero, List.set_cons_succ])
        refine wpAnyH_take (i := 22) (oi := { dst := some 8, op := Op.assign (Operand.tmp 110), type := 4, pos := "extra.go:106", after := #[{ on := 21, ground := Ground.data }, { on := 19, ground := Ground.chain }, { on := 0, ground := Ground.phase }, { on := 1, ground := Ground.phase }, { on := 2, ground := Ground.phase }, { on := 3, ground := Ground.phase }, { on := 4, ground := Ground.phase }, { on := 5, ground := Ground.phase }, { on := 6, ground := Ground.phase }, { on := 7, ground := Ground.phase }, { on := 8, ground := Ground.phase }, { on := 9, ground := Ground.phase }, { on := 10, ground := Ground.phase }, { on := 11, ground := Ground.phase }, { on := 12, ground := Ground.phase }, { on := 13, ground := Ground.phase }, { on := 14, ground := Ground.phase }, { on := 15, ground := Ground.phase }, { on := 16, ground := Ground.phase }, { on := 17, ground := Ground.phase }, { on := 18, ground := Ground.phase }, { on := 19, ground := Ground.phase }, { on := 20, ground := Ground.phase }, { on := 21, ground := Ground.phase }], guard := none }) (v := ?_) rfl (by kernel_rfl) (by kernel_rfl) (by kernel_rfl) (fun _ _ _ h => h) (Or.inl ⟨by rfl, ?_⟩) hHeld ?_
        rotate_left
        · (intro w hSw; (try dsimp only at hSw); go_simp; try with_reducible rfl)
        (try simp only [Act.put, List.setIfInBounds_toArray, List.set_cons_zero, List.set_cons_succ])
        refine wpAnyH_done (by kernel_rfl) ?_ _
        go_wp2
        go_ret
        exact ⟨rfl, HR4.out.two.below⟩
      · refine wpAnyH_take (i := 20) (oi := { dst := some 109, op := Op.binOp BinOp.eql 4 (Operand.tmp 105) (Operand.tmp 108) 4, type := 4, pos := "extra.go:106", after := #[{ on := 16, ground := Ground.data }, { on := 19, ground := Ground.data }, { on := 13, ground := Ground.guard }], guard := some (13, true) }) (v := ?_) rfl (by kernel_rfl) (by kernel_rfl) (by kernel_rfl) (fun _ _ _ h => h) (Or.inl ⟨by rfl, ?_⟩) hHeld ?_
        rotate_left
        · (intro w hSw; (try dsimp only at hSw); go_simp; try with_reducible rfl)
        (try simp only [Act.put, List.setIfInBounds_toArray, List.set_cons_zero, List.set_cons_succ])
        refine wpAnyH_take (i := 21) (oi := { dst := some 110, op := Op.pick (Operand.tmp 102) (Operand.tmp 109) (Operand.const (Value.bool false)), type := 4, pos := "extra.go:106", after := #[{ on := 13, ground := Ground.data }, { on := 20, ground := Ground.data }], guard := none }) (v := ?_) rfl (by kernel_rfl) (by kernel_rfl) (by kernel_rfl) (fun _ _ _ h => h) (Or.inl ⟨by rfl, ?_⟩) hHeld ?_
        rotate_left
        · (intro w hSw; (try dsimp only at hSw); go_simp; try with_reducible rfl)
        (try simp only [Act.put, List.setIfInBounds_toArray, List.set_cons_zero, List.set_cons_succ])
        refine wpAnyH_take (i := 22) (oi := { dst := some 8, op := Op.assign (Operand.tmp 110), type := 4, pos := "extra.go:106", after := #[{ on := 21, ground := Ground.data }, { on := 19, ground := Ground.chain }, { on := 0, ground := Ground.phase }, { on := 1, ground := Ground.phase }, { on := 2, ground := Ground.phase }, { on := 3, ground := Ground.phase }, { on := 4, ground := Ground.phase }, { on := 5, ground := Ground.phase }, { on := 6, ground := Ground.phase }, { on := 7, ground := Ground.phase }, { on := 8, ground := Ground.phase }, { on := 9, ground := Ground.phase }, { on := 10, ground := Ground.phase }, { on := 11, ground := Ground.phase }, { on := 12, ground := Ground.phase }, { on := 13, ground := Ground.phase }, { on := 14, ground := Ground.phase }, { on := 15, ground := Ground.phase }, { on := 16, ground := Ground.phase }, { on := 17, ground := Ground.phase }, { on := 18, ground := Ground.phase }, { on := 19, ground := Ground.phase }, { on := 20, ground := Ground.phase }, { on := 21, ground := Ground.phase }], guard := none }) (v := ?_) rfl (by kernel_rfl) (by kernel_rfl) (by kernel_rfl) (fun _ _ _ h => h) (Or.inl ⟨by rfl, ?_⟩) hHeld ?_
        rotate_left
        · (intro w hSw; (try dsimp only at hSw); go_simp; try with_reducible rfl)
        (try simp only [Act.put, List.setIfInBounds_toArray, List.set_cons_zero, List.set_cons_succ])
        refine wpAnyH_done (by kernel_rfl) ?_ _
        go_wp2
        go_ret
        exact ⟨rfl, HR4.out.two.below⟩
    · obtain ⟨X, hX⟩ : ∃ X : Cfg, X = { c with ctls := c.ctls ++ [⟨0, 0, more⟩] } := ⟨_, rfl⟩
      obtain ⟨v', w5, happ, hgr⟩ := app_row appT_ctl (W.alloc (.cells #[.int .i64 0, .int .i64 0, .int .i64 more] 70)) w3.heap.size (.slice u4 c.ctls.length t4) (.slice (some ⟨W.heap.size, 0, none⟩) 1 1) c.ctls.length 1 (ctlCells c.ctls) [.int .i64 0, .int .i64 0, .int .i64 more] (HO5.out.ct.alloc _) (lit_lies W [.int .i64 0, .int .i64 0, .int .i64 more] 70) rfl (by intro u hu; simp at hu; first | (subst hu; rfl) | (rcases hu with rfl | rfl <;> rfl)) (by have := HSZ.out.1; simp; omega) (by have := HSOC.out.2.2.2; omega) (by omega)
      have HGR := Lib.hid hgr
      obtain ⟨ux, tx, rfl⟩ := own_slice hgr.1
      clear hgr
      have hX5 : CfgBox (W.alloc (.cells #[.int .i64 0, .int .i64 0, .int .i64 more] 70)) k c (.slice u1 c.slaves.length t1) (.slice u2 c.polls.length t2) (.slice u3 c.points.length t3) (.slice u4 c.ctls.length t4) := keep_heap (below_new W _) HX5.out
      have HX6 : Hid (CfgBox w5 k c (.slice u1 c.slaves.length t1) (.slice u2 c.polls.length t2) (.slice u3 c.points.length t3) (.slice u4 c.ctls.length t4)) := Lib.hid (HGR.out.box (HO5.out.ct.alloc _) hX5 (by decide))
      have HBG : Hid (CfgBox w5 w.heap.size c sl po pt ct ∧ CfgBox w5 (w.heap.size + 1) d sl2 po2 pt2 ct2) := Lib.hid ⟨HGR.out.box (HO5.out.ct.alloc _) (keep_heap (below_new W _) HT5.out.b1) (by decide), HGR.out.box (HO5.out.ct.alloc _) (keep_heap (below_new W _) HT5.out.b2) (by decide)⟩
      have s0 := cells_of hX5 16 _ rfl
      clear hX5
      have s1 := cells_of HX6.out 16 _ rfl
      have f1 : w5.frozen? ⟨k, 16, none⟩ = false := frozen_of_row _ _ _ _ _ HX6.out
      have s2 := cells_of HX5.out 16 _ rfl
      go_wp2_with (at_builtin; refine Lib.wpList_append_run _ rfl _ _ _ _ rfl _ _ rfl rfl _ _ happ ?_)
      clear s0 s1 s2 f1 happ
      have hbox : CfgBox (w5.setCell ⟨k, 16, none⟩ (.slice ux (c.ctls.length + 1) tx)) k X (.slice u1 c.slaves.length t1) (.slice u2 c.polls.length t2) (.slice u3 c.points.length t3) (.slice ux (c.ctls.length + 1) tx) := by rw [hX]; exact heap_set _ _ _ _ _ _ _ HX6.out
      have hlen : X.ctls.length = c.ctls.length + 1 := by rw [hX]; simp
      have hown : OwnLists (w5.setCell ⟨k, 16, none⟩ (.slice ux (c.ctls.length + 1) tx)) w3.heap.size X (.slice u1 c.slaves.length t1) (.slice u2 c.polls.length t2) (.slice u3 c.points.length t3) (.slice ux (c.ctls.length + 1) tx) := by
        rw [hX]
        refine ⟨?_, ?_, ?_, ?_⟩
        · exact own_set (HGR.out.row2 (HO5.out.ct.alloc _) (HO5.out.sl.alloc _) (by decide)) HX6.out (by decide) _
        · exact own_set (HGR.out.row2 (HO5.out.ct.alloc _) (HO5.out.po.alloc _) (by decide)) HX6.out (by decide) _
        · exact own_set (HGR.out.row2 (HO5.out.ct.alloc _) (HO5.out.pt.alloc _) (by decide)) HX6.out (by decide) _
        · have := own_set (o := 16) (u := (.slice ux (c.ctls.length + 1) tx)) HGR.out.1 HX6.out (by decide)
          have e : ctlCells (c.ctls ++ [⟨0, 0, more⟩]) = ctlCells c.ctls ++ [.int .i64 0, .int .i64 0, .int .i64 more] := by rw [ctlCells_append]; rfl
          simp only [List.length_append, List.length_singleton]
          rw [e]
          exact this
      have hbb : Below w.heap.size w (w5.setCell ⟨k, 16, none⟩ (.slice ux (c.ctls.length + 1) tx)) := (HT5.out.below.trans (below_two HB3.out HSZ.out.1 (below_new W _) (HGR.out.below (HO5.out.ct.alloc _) (by have := HSZ.out.1; simp; omega)))).trans (below_set _ _ _ _ _ (by have := HSZ.out.2; omega))
      have HR : Hid (ThreeIn w w3.heap.size w.heap.size (w.heap.size + 1) k c d X sl po pt ct sl2 po2 pt2 ct2 (.slice u1 c.slaves.length t1) (.slice u2 c.polls.length t2) (.slice u3 c.points.length t3) (.slice ux (c.ctls.length + 1) tx) (w5.setCell ⟨k, 16, none⟩ (.slice ux (c.ctls.length + 1) tx))) := Lib.hid ⟨⟨hbb, box_set HBG.out.1 (by have := HSZ.out.2; omega), box_set HBG.out.2 (by have := HSZ.out.2; omega), HL0.out.1.on hbb, HL0.out.2.on hbb⟩, hbox, hown.lists⟩
      have HSX : Hid (SomeC X) := Lib.hid (by rw [hX]; have := HF.out.1; unfold SomeC; unfold FewC at this; simp; omega)
      have HNE : Hid (sameN c X = false) := Lib.hid (sameN_ne (by rw [hX]; intro h; have h2 := congrArg (fun q => q.ctls.length) h; simp at h2))
      clear hbox hlen hown hbb hX HT5 HX5 HO5 HX6 HBG HGR
      generalize (w5.setCell ⟨k, 16, none⟩ (.slice ux (c.ctls.length + 1) tx)) = W1 at *
      have HRd := Lib.hid (HR.out.on ((Below.refl W1.heap.size W1).drew))
      refine wp_region_held_drew (S := fun w' => CfgBox w' w.heap.size c sl po pt ct ∧ CfgBox w' (w.heap.size + 1) d sl2 po2 pt2 ct2 ∧ CfgBox w' k X (.slice u1 c.slaves.length t1) (.slice u2 c.polls.length t2) (.slice u3 c.points.length t3) (.slice ux (c.ctls.length + 1) tx)) (by kernel_rfl) ⟨HR.out.two.b1, HR.out.two.b2, HR.out.b3⟩ (fun hHeld => ?_)
      refine wpAnyH_ready (rs := [0]) (by kernel_rfl) (by simp) ?_
      refine AllReadyH.cons (o := { dst := some 89, op := Op.call { callee := Callee.value (Operand.func 13), args := #[], argTypes := #[] }, type := 4, pos := "extra.go:106", after := #[], guard := none }) rfl (fun K hK => ?_) AllReadyH.nil
      go_simp
      refine (HFI.out _ (HG.out.on HRd.out.two.below)).mono ?_; rintro e' z0 ⟨rfl, hh⟩; have HR0 := Lib.hid (HRd.out.on hh); clear hh hHeld; simp only []
      refine hK.out _ _ ⟨HR0.out.two.b1, HR0.out.two.b2, HR0.out.b3⟩ (fun hHeld => ?_)
      clear hK K
      (try simp only [Act.put, List.setIfInBounds_toArray, List.set_cons_zero, List.set_cons_succ])
      refine wpAnyH_take (i := 1) (oi := { dst := some 90, op := Op.move (Operand.tmp 89), type := 4, pos := "extra.go:106", after := #[{ on := 0, ground := Ground.data }, { on := 0, ground := Ground.chain }], guard := none }) (v := ?_) rfl (by kernel_rfl) (by kernel_rfl) (by kernel_rfl) (fun _ _ _ h => h) (Or.inl ⟨by rfl, ?_⟩) hHeld ?_
      rotate_left
      · (intro w hSw; (try dsimp only at hSw); go_simp; try with_reducible rfl)
      (try simp only [Act.put, List.setIfInBounds_toArray, List.set_cons_zero, List.set_cons_succ])
      refine wpAnyH_take (i := 2) (oi := { dst := some 91, op := Op.load 28 (Operand.tmp 4), type := 28, pos := "extra.go:106", after := #[{ on := 1, ground := Ground.guard }], guard := some (1, true) }) (v := cfgV c sl po pt ct) rfl (by kernel_rfl) (by kernel_rfl) (by kernel_rfl) (fun _ _ _ h => h) (yl28 (by rfl) _ rfl w.heap.size rfl c sl po pt ct (fun _ h => h.1)) hHeld ?_
      (try simp only [Act.put, List.setIfInBounds_toArray, List.set_cons_zero, List.set_cons_succ])
      refine wpAnyH_take (i := 3) (oi := { dst := some 92, op := Op.load 28 (Operand.tmp 9), type := 28, pos := "extra.go:106", after := #[{ on := 1, ground := Ground.guard }], guard := some (1, true) }) (v := cfgV X (.slice u1 c.slaves.length t1) (.slice u2 c.polls.length t2) (.slice u3 c.points.length t3) (.slice ux (c.ctls.length + 1) tx)) rfl (by kernel_rfl) (by kernel_rfl) (by kernel_rfl) (fun _ _ _ h => h) (yl28 (by rfl) _ rfl k rfl X (.slice u1 c.slaves.length t1) (.slice u2 c.polls.length t2) (.slice u3 c.points.length t3) (.slice ux (c.ctls.length + 1) tx) (fun _ h => h.2.2)) hHeld ?_
      (try simp only [Act.put, List.setIfInBounds_toArray, List.set_cons_zero, List.set_cons_succ])
      refine wpAnyH_ready (rs := [4]) (by kernel_rfl) (by simp) ?_
      refine AllReadyH.cons (o := { dst := some 93, op := Op.call { callee := Callee.value (Operand.func 32), args := #[Operand.tmp 91, Operand.tmp 92], argTypes := #[28, 28] }, type := 4, pos := "extra.go:106", after := #[{ on := 2, ground := Ground.data }, { on := 3, ground := Ground.data }, { on := 1, ground := Ground.chain }, { on := 1, ground := Ground.guard }], guard := some (1, true) }) rfl (fun K hK => ?_) AllReadyH.nil
      go_simp
      refine (same_any c X _ _ _ _ _ _ _ _ _ HR0.out.two.l1 HR0.out.l3 HSOC.out HSX.out).mono ?_; rintro e' z1 ⟨rfl, hh⟩; have HR1 := Lib.hid (HR0.out.on hh); clear hh hHeld; rw [HNE.out]; simp only []
      refine hK.out _ _ ⟨HR1.out.two.b1, HR1.out.two.b2, HR1.out.b3⟩ (fun hHeld => ?_)
      clear hK K
      (try simp only [Act.put, List.setIfInBounds_toArray, List.set_cons_zero, List.set_cons_succ])
      refine wpAnyH_take (i := 5) (oi := { dst := some 94, op := Op.unOp UnOp.not 4 (Operand.tmp 93), type := 4, pos := "extra.go:106", after := #[{ on := 4, ground := Ground.data }, { on := 1, ground := Ground.guard }], guard := some (1, true) }) (v := ?_) rfl (by kernel_rfl) (by kernel_rfl) (by kernel_rfl) (fun _ _ _ h => h) (Or.inl ⟨by rfl, ?_⟩) hHeld ?_
      rotate_left
      · (intro w hSw; (try dsimp only at hSw); go_simp; try with_reducible rfl)
      (try simp only [Act.put, List.setIfInBounds_toArray, List.set_cons_zero, List.set_cons_succ])
      refine wpAnyH_take (i := 6) (oi := { dst := some 95, op := Op.pick (Operand.tmp 90) (Operand.tmp 94) (Operand.const (Value.bool false)), type := 4, pos := "extra.go:106", after := #[{ on := 1, ground := Ground.data }, { on := 5, ground := Ground.data }], guard := none }) (v := ?_) rfl (by kernel_rfl) (by kernel_rfl) (by kernel_rfl) (fun _ _ _ h => h) (Or.inl ⟨by rfl, ?_⟩) hHeld ?_
      rotate_left
      · (intro w hSw; (try dsimp only at hSw); go_simp; try with_reducible rfl)
      (try simp only [Act.put, List.setIfInBounds_toArray, List.set_cons_zero, List.set_cons_succ])
      refine wpAnyH_take (i := 7) (oi := { dst := some 96, op := Op.move (Operand.tmp 95), type := 4, pos := "extra.go:106", after := #[{ on := 6, ground := Ground.data }, { on := 4, ground := Ground.chain }], guard := none }) (v := ?_) rfl (by kernel_rfl) (by kernel_rfl) (by kernel_rfl) (fun _ _ _ h => h) (Or.inl ⟨by rfl, ?_⟩) hHeld ?_
      rotate_left
      · (intro w hSw; (try dsimp only at hSw); go_simp; try with_reducible rfl)
      (try simp only [Act.put, List.setIfInBounds_toArray, List.set_cons_zero, List.set_cons_succ])
      refine wpAnyH_take (i := 8) (oi := { dst := some 97, op := Op.load 28 (Operand.tmp 9), type := 28, pos := "extra.go:106", after := #[{ on := 7, ground := Ground.guard }], guard := some (7, true) }) (v := cfgV X (.slice u1 c.slaves.length t1) (.slice u2 c.polls.length t2) (.slice u3 c.points.length t3) (.slice ux (c.ctls.length + 1) tx)) rfl (by kernel_rfl) (by kernel_rfl) (by kernel_rfl) (fun _ _ _ h => h) (yl28 (by rfl) _ rfl k rfl X (.slice u1 c.slaves.length t1) (.slice u2 c.polls.length t2) (.slice u3 c.points.length t3) (.slice ux (c.ctls.length + 1) tx) (fun _ h => h.2.2)) hHeld ?_
      (try simp only [Act.put, List.setIfInBounds_toArray, List.set_cons_zero, List.set_cons_succ])
      refine wpAnyH_take (i := 9) (oi := { dst := some 98, op := Op.load 28 (Operand.tmp 4), type := 28, pos := "extra.go:106", after := #[{ on := 7, ground := Ground.guard }], guard := some (7, true) }) (v := cfgV c sl po pt ct) rfl (by kernel_rfl) (by kernel_rfl) (by kernel_rfl) (fun _ _ _ h => h) (yl28 (by rfl) _ rfl w.heap.size rfl c sl po pt ct (fun _ h => h.1)) hHeld ?_
      (try simp only [Act.put, List.setIfInBounds_toArray, List.set_cons_zero, List.set_cons_succ])
      refine wpAnyH_ready (rs := [10]) (by kernel_rfl) (by simp) ?_
      refine AllReadyH.cons (o := { dst := some 99, op := Op.call { callee := Callee.value (Operand.func 32), args := #[Operand.tmp 97, Operand.tmp 98], argTypes := #[28, 28] }, type := 4, pos := "extra.go:106", after := #[{ on := 8, ground := Ground.data }, { on := 9, ground := Ground.data }, { on := 7, ground := Ground.chain }, { on := 7, ground := Ground.guard }], guard := some (7, true) }) rfl (fun K hK => ?_) AllReadyH.nil
      go_simp
      refine (same_any X c _ _ _ _ _ _ _ _ _ HR1.out.l3 HR1.out.two.l1 HSX.out HSOC.out).mono ?_; rintro e' z2 ⟨rfl, hh⟩; have HR2 := Lib.hid (HR1.out.on hh); clear hh hHeld; rw [sameN_comm X c, HNE.out]; simp only []
      refine hK.out _ _ ⟨HR2.out.two.b1, HR2.out.two.b2, HR2.out.b3⟩ (fun hHeld => ?_)
      clear hK K
      (try simp only [Act.put, List.setIfInBounds_toArray, List.set_cons_zero, List.set_cons_succ])
      refine wpAnyH_take (i := 11) (oi := { dst := some 100, op := Op.unOp UnOp.not 4 (Operand.tmp 99), type := 4, pos := "extra.go:106", after := #[{ on := 10, ground := Ground.data }, { on := 7, ground := Ground.guard }], guard := some (7, true) }) (v := ?_) rfl (by kernel_rfl) (by kernel_rfl) (by kernel_rfl) (fun _ _ _ h => h) (Or.inl ⟨by rfl, ?_⟩) hHeld ?_
      rotate_left
      · (intro w hSw; (try dsimp only at hSw); go_simp; try with_reducible rfl)
      (try simp only [Act.put, List.setIfInBounds_toArray, List.set_cons_zero, List.set_cons_succ])
      refine wpAnyH_take (i := 12) (oi := { dst := some 101, op := Op.pick (Operand.tmp 96) (Operand.tmp 100) (Operand.const (Value.bool false)), type := 4, pos := "extra.go:106", after := #[{ on := 7, ground := Ground.data }, { on := 11, ground := Ground.data }], guard := none }) (v := ?_) rfl (by kernel_rfl) (by kernel_rfl) (by kernel_rfl) (fun _ _ _ h => h) (Or.inl ⟨by rfl, ?_⟩) hHeld ?_
      rotate_left
      · (intro w hSw; (try dsimp only at hSw); go_simp; try with_reducible rfl)
      (try simp only [Act.put, List.setIfInBounds_toArray, List.set_cons_zero, List.set_cons_succ])
      refine wpAnyH_take (i := 13) (oi := { dst := some 102, op := Op.move (Operand.tmp 101), type := 4, pos := "extra.go:106", after := #[{ on := 12, ground := Ground.data }, { on := 10, ground := Ground.chain }], guard := none }) (v := ?_) rfl (by kernel_rfl) (by kernel_rfl) (by kernel_rfl) (fun _ _ _ h => h) (Or.inl ⟨by rfl, ?_⟩) hHeld ?_
      rotate_left
      · (intro w hSw; (try dsimp only at hSw); go_simp; try with_reducible rfl)
      (try simp only [Act.put, List.setIfInBounds_toArray, List.set_cons_zero, List.set_cons_succ])
      refine wpAnyH_take (i := 14) (oi := { dst := some 103, op := Op.load 28 (Operand.tmp 4), type := 28, pos := "extra.go:106", after := #[{ on := 13, ground := Ground.guard }], guard := some (13, true) }) (v := cfgV c sl po pt ct) rfl (by kernel_rfl) (by kernel_rfl) (by kernel_rfl) (fun _ _ _ h => h) (yl28 (by rfl) _ rfl w.heap.size rfl c sl po pt ct (fun _ h => h.1)) hHeld ?_
      (try simp only [Act.put, List.setIfInBounds_toArray, List.set_cons_zero, List.set_cons_succ])
      refine wpAnyH_take (i := 15) (oi := { dst := some 104, op := Op.load 28 (Operand.tmp 5), type := 28, pos := "extra.go:106", after := #[{ on := 13, ground := Ground.guard }], guard := some (13, true) }) (v := cfgV d sl2 po2 pt2 ct2) rfl (by kernel_rfl) (by kernel_rfl) (by kernel_rfl) (fun _ _ _ h => h) (yl28 (by rfl) _ rfl (w.heap.size + 1) rfl d sl2 po2 pt2 ct2 (fun _ h => h.2.1)) hHeld ?_
      (try simp only [Act.put, List.setIfInBounds_toArray, List.set_cons_zero, List.set_cons_succ])
      refine wpAnyH_take (i := 17) (oi := { dst := some 106, op := Op.load 28 (Operand.tmp 5), type := 28, pos := "extra.go:106", after := #[{ on := 13, ground := Ground.guard }], guard := some (13, true) }) (v := cfgV d sl2 po2 pt2 ct2) rfl (by kernel_rfl) (by kernel_rfl) (by kernel_rfl) (fun _ _ _ h => h) (yl28 (by rfl) _ rfl (w.heap.size + 1) rfl d sl2 po2 pt2 ct2 (fun _ h => h.2.1)) hHeld ?_
      (try simp only [Act.put, List.setIfInBounds_toArray, List.set_cons_zero, List.set_cons_succ])
      refine wpAnyH_take (i := 18) (oi := { dst := some 107, op := Op.load 28 (Operand.tmp 4), type := 28, pos := "extra.go:106", after := #[{ on := 13, ground := Ground.guard }], guard := some (13, true) }) (v := cfgV c sl po pt ct) rfl (by kernel_rfl) (by kernel_rfl) (by kernel_rfl) (fun _ _ _ h => h) (yl28 (by rfl) _ rfl w.heap.size rfl c sl po pt ct (fun _ h => h.1)) hHeld ?_
      (try simp only [Act.put, List.setIfInBounds_toArray, List.set_cons_zero, List.set_cons_succ])
      refine wpAnyH_ready (rs := [16]) (by kernel_rfl) (by simp) ?_
      refine AllReadyH.cons (o := { dst := some 105, op := Op.call { callee := Callee.value (Operand.func 32), args := #[Operand.tmp 103, Operand.tmp 104], argTypes := #[28, 28] }, type := 4, pos := "extra.go:106", after := #[{ on := 14, ground := Ground.data }, { on := 15, ground := Ground.data }, { on := 13, ground := Ground.chain }, { on := 13, ground := Ground.guard }], guard := some (13, true) }) rfl (fun K hK => ?_) AllReadyH.nil
      go_simp
      refine (same_any c d _ _ _ _ _ _ _ _ _ HR2.out.two.l1 HR2.out.two.l2 HSOC.out HSO2.out).mono ?_; rintro e' z3 ⟨rfl, hh⟩; have HR3 := Lib.hid (HR2.out.on hh); clear hh hHeld; simp only []
      refine hK.out _ _ ⟨HR3.out.two.b1, HR3.out.two.b2, HR3.out.b3⟩ (fun hHeld => ?_)
      clear hK K
      (try simp only [Act.put, List.setIfInBounds_toArray, List.set_cons_zero, List.set_cons_succ])
      refine wpAnyH_ready (rs := [19]) (by kernel_rfl) (by simp) ?_
      refine AllReadyH.cons (o := { dst := some 108, op := Op.call { callee := Callee.value (Operand.func 32), args := #[Operand.tmp 106, Operand.tmp 107], argTypes := #[28, 28] }, type := 4, pos := "extra.go:106", after := #[{ on := 17, ground := Ground.data }, { on := 18, ground := Ground.data }, { on := 16, ground := Ground.chain }, { on := 13, ground := Ground.guard }], guard := some (13, true) }) rfl (fun K hK => ?_) AllReadyH.nil
      go_simp
      refine (same_any d c _ _ _ _ _ _ _ _ _ HR3.out.two.l2 HR3.out.two.l1 HSO2.out HSOC.out).mono ?_; rintro e' z4 ⟨rfl, hh⟩; have HR4 := Lib.hid (HR3.out.on hh); clear hh hHeld; rw [sameN_comm d c]; simp only []
      refine hK.out _ _ ⟨HR4.out.two.b1, HR4.out.two.b2, HR4.out.b3⟩ (fun hHeld => ?_)
      clear hK K
      (try simp only [Act.put, List.setIfInBounds_toArray, List.set_cons_zero, List.set_cons_succ])
      generalize sameN c d = sb
      cases sb
      · refine wpAnyH_take (i := 20) (oi := { dst := some 109, op := Op.binOp BinOp.eql 4 (Operand.tmp 105) (Operand.tmp 108) 4, type := 4, pos := "extra.go:106", after := #[{ on := 16, ground := Ground.data }, { on := 19, ground := Ground.data }, { on := 13, ground := Ground.guard }], guard := some (13, true) }) (v := ?_) rfl (by kernel_rfl) (by kernel_rfl) (by kernel_rfl) (fun _ _ _ h => h) (Or.inl ⟨by rfl, ?_⟩) hHeld ?_
        rotate_left
        · (intro w hSw; (try dsimp only at hSw); go_simp; try with_reducible rfl)
        (try simp only [Act.put, List.setIfInBounds_toArray, List.set_cons_zero, List.set_cons_succ])
        refine wpAnyH_take (i := 21) (oi := { dst := some 110, op := Op.pick (Operand.tmp 102) (Operand.tmp 109) (Operand.const (Value.bool false)), type := 4, pos := "extra.go:106", after := #[{ on := 13, ground := Ground.data }, { on := 20, ground := Ground.data }], guard := none }) (v := ?_) rfl (by kernel_rfl) (by kernel_rfl) (by kernel_rfl) (fun _ _ _ h => h) (Or.inl ⟨by rfl, ?_⟩) hHeld ?_
        rotate_left
        · (intro w hSw; (try dsimp only at hSw); go_simp; try with_reducible rfl)
        (try simp only [Act.put, List.setIfInBounds_toArray, List.set_cons_zero, List.set_cons_succ])
        refine wpAnyH_take (i := 22) (oi := { dst := some 8, op := Op.assign (Operand.tmp 110), type := 4, pos := "extra.go:106", after := #[{ on := 21, ground := Ground.data }, { on := 19, ground := Ground.chain }, { on := 0, ground := Ground.phase }, { on := 1, ground := Ground.phase }, { on := 2, ground := Ground.phase }, { on := 3, ground := Ground.phase }, { on := 4, ground := Ground.phase }, { on := 5, ground := Ground.phase }, { on := 6, ground := Ground.phase }, { on := 7, ground := Ground.phase }, { on := 8, ground := Ground.phase }, { on := 9, ground := Ground.phase }, { on := 10, ground := Ground.phase }, { on := 11, ground := Ground.phase }, { on := 12, ground := Ground.phase }, { on := 13, ground := Ground.phase }, { on := 14, ground := Ground.phase }, { on := 15, ground := Ground.phase }, { on := 16, ground := Ground.phase }, { on := 17, ground := Ground.phase }, { on := 18, ground := Ground.phase }, { on := 19, ground := Ground.phase }, { on := 20, ground := Ground.phase }, { on := 21, ground := Ground.phase }], guard := none }) (v := ?_) rfl (by kernel_rfl) (by kernel_rfl) (by kernel_rfl) (fun _ _ _ h => h) (Or.inl ⟨by rfl, ?_⟩) hHeld ?_
        rotate_left
        · (intro w hSw; (try dsimp only at hSw); go_simp; try with_reducible rfl)
        (try simp only [Act.put, List.setIfInBounds_toArray, List.set_cons_zero, List.set_cons_succ])
        refine wpAnyH_done (by kernel_rfl) ?_ _
        go_wp2
        go_ret
        exact ⟨rfl, HR4.out.two.below⟩
      · refine wpAnyH_take (i := 20) (oi := { dst := some 109, op := Op.binOp BinOp.eql 4 (Operand.tmp 105) (Operand.tmp 108) 4, type := 4, pos := "extra.go:106", after := #[{ on := 16, ground := Ground.data }, { on := 19, ground := Ground.data }, { on := 13, ground := Ground.guard }], guard := some (13, true) }) (v := ?_) rfl (by kernel_rfl) (by kernel_rfl) (by kernel_rfl) (fun _ _ _ h => h) (Or.inl ⟨by rfl, ?_⟩) hHeld ?_
        rotate_left
        · (intro w hSw; (try dsimp only at hSw); go_simp; try with_reducible rfl)
        (try simp only [Act.put, List.setIfInBounds_toArray, List.set_cons_zero, List.set_cons_succ])
        refine wpAnyH_take (i := 21) (oi := { dst := some 110, op := Op.pick (Operand.tmp 102) (Operand.tmp 109) (Operand.const (Value.bool false)), type := 4, pos := "extra.go:106", after := #[{ on := 13, ground := Ground.data }, { on := 20, ground := Ground.data }], guard := none }) (v := ?_) rfl (by kernel_rfl) (by kernel_rfl) (by kernel_rfl) (fun _ _ _ h => h) (Or.inl ⟨by rfl, ?_⟩) hHeld ?_
        rotate_left
        · (intro w hSw; (try dsimp only at hSw); go_simp; try with_reducible rfl)
        (try simp only [Act.put, List.setIfInBounds_toArray, List.set_cons_zero, List.set_cons_succ])
        refine wpAnyH_take (i := 22) (oi := { dst := some 8, op := Op.assign (Operand.tmp 110), type := 4, pos := "extra.go:106", after := #[{ on := 21, ground := Ground.data }, { on := 19, ground := Ground.chain }, { on := 0, ground := Ground.phase }, { on := 1, ground := Ground.phase }, { on := 2, ground := Ground.phase }, { on := 3, ground := Ground.phase }, { on := 4, ground := Ground.phase }, { on := 5, ground := Ground.phase }, { on := 6, ground := Ground.phase }, { on := 7, ground := Ground.phase }, { on := 8, ground := Ground.phase }, { on := 9, ground := Ground.phase }, { on := 10, ground := Ground.phase }, { on := 11, ground := Ground.phase }, { on := 12, ground := Ground.phase }, { on := 13, ground := Ground.phase }, { on := 14, ground := Ground.phase }, { on := 15, ground := Ground.phase }, { on := 16, ground := Ground.phase }, { on := 17, ground := Ground.phase }, { on := 18, ground := Ground.phase }, { on := 19, ground := Ground.phase }, { on := 20, ground := Ground.phase }, { on := 21, ground := Ground.phase }], guard := none }) (v := ?_) rfl (by kernel_rfl) (by kernel_rfl) (by kernel_rfl) (fun _ _ _ h => h) (Or.inl ⟨by rfl, ?_⟩) hHeld ?_
        rotate_left
        · (intro w hSw; (try dsimp only at hSw); go_simp; try with_reducible rfl)
        (try simp only [Act.put, List.setIfInBounds_toArray, List.set_cons_zero, List.set_cons_succ])
        refine wpAnyH_done (by kernel_rfl) ?_ _
        go_wp2
        go_ret
        exact ⟨rfl, HR4.out.two.below⟩
  · have e0 : (field == 0) = false := by simp; omega
    have e1 : (field == 1) = false := by simp; omega
    have e2 : (field == 2) = false := by simp; omega
    have e3 : (field == 3) = false := by simp; omega
    have e4 : (field == 4) = false := by simp; omega
    have e5 : (field == 5) = false := by simp; omega
    have e6 : (field == 6) = false := by simp; omega
    clear h07
    obtain ⟨X, hX⟩ : ∃ X : Cfg, X = { c with confirm := wrap64 (c.confirm + more) } := ⟨_, rfl⟩
    have s0 := cells_of HX5.out 8 _ rfl
    have f0 : W.frozen? ⟨k, 8, none⟩ = false := frozen_of_row _ _ _ _ _ HX5.out
    go_wp2_with fail
    clear s0 f0
    have hbox : CfgBox (W.setCell ⟨k, 8, none⟩ (.int .i64 (wrap64 (c.confirm + more)))) k X (.slice u1 c.slaves.length t1) (.slice u2 c.polls.length t2) (.slice u3 c.points.length t3) (.slice u4 c.ctls.length t4) := by rw [hX]; exact heap_set _ _ _ _ _ _ _ HX5.out
    have hown : OwnLists (W.setCell ⟨k, 8, none⟩ (.int .i64 (wrap64 (c.confirm + more)))) w3.heap.size X (.slice u1 c.slaves.length t1) (.slice u2 c.polls.length t2) (.slice u3 c.points.length t3) (.slice u4 c.ctls.length t4) := by rw [hX]; exact ⟨own_set HO5.out.sl HX5.out (by decide) _, own_set HO5.out.po HX5.out (by decide) _, own_set HO5.out.pt HX5.out (by decide) _, own_set HO5.out.ct HX5.out (by decide) _⟩
    have hbb : Below w.heap.size w (W.setCell ⟨k, 8, none⟩ (.int .i64 (wrap64 (c.confirm + more)))) := HT5.out.below.trans (below_set _ _ _ _ _ (by have := HSZ.out.2; omega))
    have HR : Hid (ThreeIn w w3.heap.size w.heap.size (w.heap.size + 1) k c d X sl po pt ct sl2 po2 pt2 ct2 (.slice u1 c.slaves.length t1) (.slice u2 c.polls.length t2) (.slice u3 c.points.length t3) (.slice u4 c.ctls.length t4) (W.setCell ⟨k, 8, none⟩ (.int .i64 (wrap64 (c.confirm + more))))) := Lib.hid ⟨⟨hbb, box_set HT5.out.b1 (by have := HSZ.out.2; omega), box_set HT5.out.b2 (by have := HSZ.out.2; omega), HL0.out.1.on hbb, HL0.out.2.on hbb⟩, hbox, hown.lists⟩
    have HSX : Hid (SomeC X) := Lib.hid (by rw [hX]; exact HSOC.out)
    have HNE : Hid (sameN c X = false) := Lib.hid (sameN_ne (by rw [hX]; intro h; have h2 := congrArg Cfg.confirm h; exact wrap_ne HI.out HM.out h2.symm))
    clear hbox hown hbb hX HT5 HX5 HO5
    generalize (W.setCell ⟨k, 8, none⟩ (.int .i64 (wrap64 (c.confirm + more)))) = W1 at *
    have HRd := Lib.hid (HR.out.on ((Below.refl W1.heap.size W1).drew))
    refine wp_region_held_drew (S := fun w' => CfgBox w' w.heap.size c sl po pt ct ∧ CfgBox w' (w.heap.size + 1) d sl2 po2 pt2 ct2 ∧ CfgBox w' k X (.slice u1 c.slaves.length t1) (.slice u2 c.polls.length t2) (.slice u3 c.points.length t3) (.slice u4 c.ctls.length t4)) (by kernel_rfl) ⟨HR.out.two.b1, HR.out.two.b2, HR.out.b3⟩ (fun hHeld => ?_)
    refine wpAnyH_ready (rs := [0]) (by kernel_rfl) (by simp) ?_
    refine AllReadyH.cons (o := { dst := some 89, op := Op.call { callee := Callee.value (Operand.func 13), args := #[], argTypes := #[] }, type := 4, pos := "extra.go:106", after := #[], guard := none }) rfl (fun K hK => ?_) AllReadyH.nil
    go_simp
    refine (HFI.out _ (HG.out.on HRd.out.two.below)).mono ?_; rintro e' z0 ⟨rfl, hh⟩; have HR0 := Lib.hid (HRd.out.on hh); clear hh hHeld; simp only []
    refine hK.out _ _ ⟨HR0.out.two.b1, HR0.out.two.b2, HR0.out.b3⟩ (fun hHeld => ?_)
    clear hK K
    (try simp only [Act.put, List.setIfInBounds_toArray, List.set_cons_zero, List.set_cons_succ])
    refine wpAnyH_take (i := 1) (oi := { dst := some 90, op := Op.move (Operand.tmp 89), type := 4, pos := "extra.go:106", after := #[{ on := 0, ground := Ground.data }, { on := 0, ground := Ground.chain }], guard := none }) (v := ?_) rfl (by kernel_rfl) (by kernel_rfl) (by kernel_rfl) (fun _ _ _ h => h) (Or.inl ⟨by rfl, ?_⟩) hHeld ?_
    rotate_left
    · (intro w hSw; (try dsimp only at hSw); go_simp; try with_reducible rfl)
    (try simp only [Act.put, List.setIfInBounds_toArray, List.set_cons_zero, List.set_cons_succ])
    refine wpAnyH_take (i := 2) (oi := { dst := some 91, op := Op.load 28 (Operand.tmp 4), type := 28, pos := "extra.go:106", after := #[{ on := 1, ground := Ground.guard }], guard := some (1, true) }) (v := cfgV c sl po pt ct) rfl (by kernel_rfl) (by kernel_rfl) (by kernel_rfl) (fun _ _ _ h => h) (yl28 (by rfl) _ rfl w.heap.size rfl c sl po pt ct (fun _ h => h.1)) hHeld ?_
    (try simp only [Act.put, List.setIfInBounds_toArray, List.set_cons_zero, List.set_cons_succ])
    refine wpAnyH_take (i := 3) (oi := { dst := some 92, op := Op.load 28 (Operand.tmp 9), type := 28, pos := "extra.go:106", after := #[{ on := 1, ground := Ground.guard }], guard := some (1, true) }) (v := cfgV X (.slice u1 c.slaves.length t1) (.slice u2 c.polls.length t2) (.slice u3 c.points.length t3) (.slice u4 c.ctls.length t4)) rfl (by kernel_rfl) (by kernel_rfl) (by kernel_rfl) (fun _ _ _ h => h) (yl28 (by rfl) _ rfl k rfl X (.slice u1 c.slaves.length t1) (.slice u2 c.polls.length t2) (.slice u3 c.points.length t3) (.slice u4 c.ctls.length t4) (fun _ h => h.2.2)) hHeld ?_
    (try simp only [Act.put, List.setIfInBounds_toArray, List.set_cons_zero, List.set_cons_succ])
    refine wpAnyH_ready (rs := [4]) (by kernel_rfl) (by simp) ?_
    refine AllReadyH.cons (o := { dst := some 93, op := Op.call { callee := Callee.value (Operand.func 32), args := #[Operand.tmp 91, Operand.tmp 92], argTypes := #[28, 28] }, type := 4, pos := "extra.go:106", after := #[{ on := 2, ground := Ground.data }, { on := 3, ground := Ground.data }, { on := 1, ground := Ground.chain }, { on := 1, ground := Ground.guard }], guard := some (1, true) }) rfl (fun K hK => ?_) AllReadyH.nil
    go_simp
    refine (same_any c X _ _ _ _ _ _ _ _ _ HR0.out.two.l1 HR0.out.l3 HSOC.out HSX.out).mono ?_; rintro e' z1 ⟨rfl, hh⟩; have HR1 := Lib.hid (HR0.out.on hh); clear hh hHeld; rw [HNE.out]; simp only []
    refine hK.out _ _ ⟨HR1.out.two.b1, HR1.out.two.b2, HR1.out.b3⟩ (fun hHeld => ?_)
    clear hK K
    (try simp only [Act.put, List.setIfInBounds_toArray, List.set_cons_zero, List.set_cons_succ])
    refine wpAnyH_take (i := 5) (oi := { dst := some 94, op := Op.unOp UnOp.not 4 (Operand.tmp 93), type := 4, pos := "extra.go:106", after := #[{ on := 4, ground := Ground.data }, { on := 1, ground := Ground.guard }], guard := some (1, true) }) (v := ?_) rfl (by kernel_rfl) (by kernel_rfl) (by kernel_rfl) (fun _ _ _ h => h) (Or.inl ⟨by rfl, ?_⟩) hHeld ?_
    rotate_left
    · (intro w hSw; (try dsimp only at hSw); go_simp; try with_reducible rfl)
    (try simp only [Act.put, List.setIfInBounds_toArray, List.set_cons_zero, List.set_cons_succ])
    refine wpAnyH_take (i := 6) (oi := { dst := some 95, op := Op.pick (Operand.tmp 90) (Operand.tmp 94) (Operand.const (Value.bool false)), type := 4, pos := "extra.go:106", after := #[{ on := 1, ground := Ground.data }, { on := 5, ground := Ground.data }], guard := none }) (v := ?_) rfl (by kernel_rfl) (by kernel_rfl) (by kernel_rfl) (fun _ _ _ h => h) (Or.inl ⟨by rfl, ?_⟩) hHeld ?_
    rotate_left
    · (intro w hSw; (try dsimp only at hSw); go_simp; try with_reducible rfl)
    (try simp only [Act.put, List.setIfInBounds_toArray, List.set_cons_zero, List.set_cons_succ])
    refine wpAnyH_take (i := 7) (oi := { dst := some 96, op := Op.move (Operand.tmp 95), type := 4, pos := "extra.go:106", after := #[{ on := 6, ground := Ground.data }, { on := 4, ground := Ground.chain }], guard := none }) (v := ?_) rfl (by kernel_rfl) (by kernel_rfl) (by kernel_rfl) (fun _ _ _ h => h) (Or.inl ⟨by rfl, ?_⟩) hHeld ?_
    rotate_left
    · (intro w hSw; (try dsimp only at hSw); go_simp; try with_reducible rfl)
    (try simp only [Act.put, List.setIfInBounds_toArray, List.set_cons_zero, List.set_cons_succ])
    refine wpAnyH_take (i := 8) (oi := { dst := some 97, op := Op.load 28 (Operand.tmp 9), type := 28, pos := "extra.go:106", after := #[{ on := 7, ground := Ground.guard }], guard := some (7, true) }) (v := cfgV X (.slice u1 c.slaves.length t1) (.slice u2 c.polls.length t2) (.slice u3 c.points.length t3) (.slice u4 c.ctls.length t4)) rfl (by kernel_rfl) (by kernel_rfl) (by kernel_rfl) (fun _ _ _ h => h) (yl28 (by rfl) _ rfl k rfl X (.slice u1 c.slaves.length t1) (.slice u2 c.polls.length t2) (.slice u3 c.points.length t3) (.slice u4 c.ctls.length t4) (fun _ h => h.2.2)) hHeld ?_
    (try simp only [Act.put, List.setIfInBounds_toArray, List.set_cons_zero, List.set_cons_succ])
    refine wpAnyH_take (i := 9) (oi := { dst := some 98, op := Op.load 28 (Operand.tmp 4), type := 28, pos := "extra.go:106", after := #[{ on := 7, ground := Ground.guard }], guard := some (7, true) }) (v := cfgV c sl po pt ct) rfl (by kernel_rfl) (by kernel_rfl) (by kernel_rfl) (fun _ _ _ h => h) (yl28 (by rfl) _ rfl w.heap.size rfl c sl po pt ct (fun _ h => h.1)) hHeld ?_
    (try simp only [Act.put, List.setIfInBounds_toArray, List.set_cons_zero, List.set_cons_succ])
    refine wpAnyH_ready (rs := [10]) (by kernel_rfl) (by simp) ?_
    refine AllReadyH.cons (o := { dst := some 99, op := Op.call { callee := Callee.value (Operand.func 32), args := #[Operand.tmp 97, Operand.tmp 98], argTypes := #[28, 28] }, type := 4, pos := "extra.go:106", after := #[{ on := 8, ground := Ground.data }, { on := 9, ground := Ground.data }, { on := 7, ground := Ground.chain }, { on := 7, ground := Ground.guard }], guard := some (7, true) }) rfl (fun K hK => ?_) AllReadyH.nil
    go_simp
    refine (same_any X c _ _ _ _ _ _ _ _ _ HR1.out.l3 HR1.out.two.l1 HSX.out HSOC.out).mono ?_; rintro e' z2 ⟨rfl, hh⟩; have HR2 := Lib.hid (HR1.out.on hh); clear hh hHeld; rw [sameN_comm X c, HNE.out]; simp only []
    refine hK.out _ _ ⟨HR2.out.two.b1, HR2.out.two.b2, HR2.out.b3⟩ (fun hHeld => ?_)
    clear hK K
    (try simp only [Act.put, List.setIfInBounds_toArray, List.set_cons_zero, List.set_cons_succ])
    refine wpAnyH_take (i := 11) (oi := { dst := some 100, op := Op.unOp UnOp.not 4 (Operand.tmp 99), type := 4, pos := "extra.go:106", after := #[{ on := 10, ground := Ground.data }, { on := 7, ground := Ground.guard }], guard := some (7, true) }) (v := ?_) rfl (by kernel_rfl) (by kernel_rfl) (by kernel_rfl) (fun _ _ _ h => h) (Or.inl ⟨by rfl, ?_⟩) hHeld ?_
    rotate_left
    · (intro w hSw; (try dsimp only at hSw); go_simp; try with_reducible rfl)
    (try simp only [Act.put, List.setIfInBounds_toArray, List.set_cons_zero, List.set_cons_succ])
    refine wpAnyH_take (i := 12) (oi := { dst := some 101, op := Op.pick (Operand.tmp 96) (Operand.tmp 100) (Operand.const (Value.bool false)), type := 4, pos := "extra.go:106", after := #[{ on := 7, ground := Ground.data }, { on := 11, ground := Ground.data }], guard := none }) (v := ?_) rfl (by kernel_rfl) (by kernel_rfl) (by kernel_rfl) (fun _ _ _ h => h) (Or.inl ⟨by rfl, ?_⟩) hHeld ?_
    rotate_left
    · (intro w hSw; (try dsimp only at hSw); go_simp; try with_reducible rfl)
    (try simp only [Act.put, List.setIfInBounds_toArray, List.set_cons_zero, List.set_cons_succ])
    refine wpAnyH_take (i := 13) (oi := { dst := some 102, op := Op.move (Operand.tmp 101), type := 4, pos := "extra.go:106", after := #[{ on := 12, ground := Ground.data }, { on := 10, ground := Ground.chain }], guard := none }) (v := ?_) rfl (by kernel_rfl) (by kernel_rfl) (by kernel_rfl) (fun _ _ _ h => h) (Or.inl ⟨by rfl, ?_⟩) hHeld ?_
    rotate_left
    · (intro w hSw; (try dsimp only at hSw); go_simp; try with_reducible rfl)
    (try simp only [Act.put, List.setIfInBounds_toArray, List.set_cons_zero, List.set_cons_succ])
    refine wpAnyH_take (i := 14) (oi := { dst := some 103, op := Op.load 28 (Operand.tmp 4), type := 28, pos := "extra.go:106", after := #[{ on := 13, ground := Ground.guard }], guard := some (13, true) }) (v := cfgV c sl po pt ct) rfl (by kernel_rfl) (by kernel_rfl) (by kernel_rfl) (fun _ _ _ h => h) (yl28 (by rfl) _ rfl w.heap.size rfl c sl po pt ct (fun _ h => h.1)) hHeld ?_
    (try simp only [Act.put, List.setIfInBounds_toArray, List.set_cons_zero, List.set_cons_succ])
    refine wpAnyH_take (i := 15) (oi := { dst := some 104, op := Op.load 28 (Operand.tmp 5), type := 28, pos := "extra.go:106", after := #[{ on := 13, ground := Ground.guard }], guard := some (13, true) }) (v := cfgV d sl2 po2 pt2 ct2) rfl (by kernel_rfl) (by kernel_rfl) (by kernel_rfl) (fun _ _ _ h => h) (yl28 (by rfl) _ rfl (w.heap.size + 1) rfl d sl2 po2 pt2 ct2 (fun _ h => h.2.1)) hHeld ?_
    (try simp only [Act.put, List.setIfInBounds_toArray, List.set_cons_zero, List.set_cons_succ])
    refine wpAnyH_take (i := 17) (oi := { dst := some 106, op := Op.load 28 (Operand.tmp 5), type := 28, pos := "extra.go:106", after := #[{ on := 13, ground := Ground.guard }], guard := some (13, true) }) (v := cfgV d sl2 po2 pt2 ct2) rfl (by kernel_rfl) (by kernel_rfl) (by kernel_rfl) (fun _ _ _ h => h) (yl28 (by rfl) _ rfl (w.heap.size + 1) rfl d sl2 po2 pt2 ct2 (fun _ h => h.2.1)) hHeld ?_
    (try simp only [Act.put, List.setIfInBounds_toArray, List.set_cons_zero, List.set_cons_succ])
    refine wpAnyH_take (i := 18) (oi := { dst := some 107, op := Op.load 28 (Operand.tmp 4), type := 28, pos := "extra.go:106", after := #[{ on := 13, ground := Ground.guard }], guard := some (13, true) }) (v := cfgV c sl po pt ct) rfl (by kernel_rfl) (by kernel_rfl) (by kernel_rfl) (fun _ _ _ h => h) (yl28 (by rfl) _ rfl w.heap.size rfl c sl po pt ct (fun _ h => h.1)) hHeld ?_
    (try simp only [Act.put, List.setIfInBounds_toArray, List.set_cons_zero, List.set_cons_succ])
    refine wpAnyH_ready (rs := [16]) (by kernel_rfl) (by simp) ?_
    refine AllReadyH.cons (o := { dst := some 105, op := Op.call { callee := Callee.value (Operand.func 32), args := #[Operand.tmp 103, Operand.tmp 104], argTypes := #[28, 28] }, type := 4, pos := "extra.go:106", after := #[{ on := 14, ground := Ground.data }, { on := 15, ground := Ground.data }, { on := 13, ground := Ground.chain }, { on := 13, ground := Ground.guard }], guard := some (13, true) }) rfl (fun K hK => ?_) AllReadyH.nil
    go_simp
    refine (same_any c d _ _ _ _ _ _ _ _ _ HR2.out.two.l1 HR2.out.two.l2 HSOC.out HSO2.out).mono ?_; rintro e' z3 ⟨rfl, hh⟩; have HR3 := Lib.hid (HR2.out.on hh); clear hh hHeld; simp only []
    refine hK.out _ _ ⟨HR3.out.two.b1, HR3.out.two.b2, HR3.out.b3⟩ (fun hHeld => ?_)
    clear hK K
    (try simp only [Act.put, List.setIfInBounds_toArray, List.set_cons_zero, List.set_cons_succ])
    refine wpAnyH_ready (rs := [19]) (by kernel_rfl) (by simp) ?_
    refine AllReadyH.cons (o := { dst := some 108, op := Op.call { callee := Callee.value (Operand.func 32), args := #[Operand.tmp 106, Operand.tmp 107], argTypes := #[28, 28] }, type := 4, pos := "extra.go:106", after := #[{ on := 17, ground := Ground.data }, { on := 18, ground := Ground.data }, { on := 16, ground := Ground.chain }, { on := 13, ground := Ground.guard }], guard := some (13, true) }) rfl (fun K hK => ?_) AllReadyH.nil
    go_simp
    refine (same_any d c _ _ _ _ _ _ _ _ _ HR3.out.two.l2 HR3.out.two.l1 HSO2.out HSOC.out).mono ?_; rintro e' z4 ⟨rfl, hh⟩; have HR4 := Lib.hid (HR3.out.on hh); clear hh hHeld; rw [sameN_comm d c]; simp only []
    refine hK.out _ _ ⟨HR4.out.two.b1, HR4.out.two.b2, HR4.out.b3⟩ (fun hHeld => ?_)
    clear hK K
    (try simp only [Act.put, List.setIfInBounds_toArray, List.set_cons_zero, List.set_cons_succ])
    generalize sameN c d = sb
    cases sb
    · refine wpAnyH_take (i := 20) (oi := { dst := some 109, op := Op.binOp BinOp.eql 4 (Operand.tmp 105) (Operand.tmp 108) 4, type := 4, pos := "extra.go:106", after := #[{ on := 16, ground := Ground.data }, { on := 19, ground := Ground.data }, { on := 13, ground := Ground.guard }], guard := some (13, true) }) (v := ?_) rfl (by kernel_rfl) (by kernel_rfl) (by kernel_rfl) (fun _ _ _ h => h) (Or.inl ⟨by rfl, ?_⟩) hHeld ?_
      rotate_left
      · (intro w hSw; (try dsimp only at hSw); go_simp; try with_reducible rfl)
      (try simp only [Act.put, List.setIfInBounds_toArray, List.set_cons_zero, List.set_cons_succ])
      refine wpAnyH_take (i := 21) (oi := { dst := some 110, op := Op.pick (Operand.tmp 102) (Operand.tmp 109) (Operand.const (Value.bool false)), type := 4, pos := "extra.go:106", after := #[{ on := 13, ground := Ground.data }, { on := 20, ground := Ground.data }], guard := none }) (v := ?_) rfl (by kernel_rfl) (by kernel_rfl) (by kernel_rfl) (fun _ _ _ h => h) (Or.inl ⟨by rfl, ?_⟩) hHeld ?_
      rotate_left
      · (intro w hSw; (try dsimp only at hSw); go_simp; try with_reducible rfl)
      (try simp only [Act.put, List.setIfInBounds_toArray, List.set_cons_zero, List.set_cons_succ])
      refine wpAnyH_take (i := 22) (oi := { dst := some 8, op := Op.assign (Operand.tmp 110), type := 4, pos := "extra.go:106", after := #[{ on := 21, ground := Ground.data }, { on := 19, ground := Ground.chain }, { on := 0, ground := Ground.phase }, { on := 1, ground := Ground.phase }, { on := 2, ground := Ground.phase }, { on := 3, ground := Ground.phase }, { on := 4, ground := Ground.phase }, { on := 5, ground := Ground.phase }, { on := 6, ground := Ground.phase }, { on := 7, ground := Ground.phase }, { on := 8, ground := Ground.phase }, { on := 9, ground := Ground.phase }, { on := 10, ground := Ground.phase }, { on := 11, ground := Ground.phase }, { on := 12, ground := Ground.phase }, { on := 13, ground := Ground.phase }, { on := 14, ground := Ground.phase }, { on := 15, ground := Ground.phase }, { on := 16, ground := Ground.phase }, { on := 17, ground := Ground.phase }, { on := 18, ground := Ground.phase }, { on := 19, ground := Ground.phase }, { on := 20, ground := Ground.phase }, { on := 21, ground := Ground.phase }], guard := none }) (v := ?_) rfl (by kernel_rfl) (by kernel_rfl) (by kernel_rfl) (fun _ _ _ h => h) (Or.inl ⟨by rfl, ?_⟩) hHeld ?_
      rotate_left
      · (intro w hSw; (try dsimp only at hSw); go_simp; try with_reducible rfl)
      (try simp only [Act.put, List.setIfInBounds_toArray, List.set_cons_zero, List.set_cons_succ])
      refine wpAnyH_done (by kernel_rfl) ?_ _
      go_wp2
      go_ret
      exact ⟨rfl, HR4.out.two.below⟩
    · refine wpAnyH_take (i := 20) (oi := { dst := some 109, op := Op.binOp BinOp.eql 4 (Operand.tmp 105) (Operand.tmp 108) 4, type := 4, pos := "extra.go:106", after := #[{ on := 16, ground := Ground.data }, { on := 19, ground := Ground.data }, { on := 13, ground := Ground.guard }], guard := some (13, true) }) (v := ?_) rfl (by kernel_rfl) (by kernel_rfl) (by kernel_rfl) (fun _ _ _ h => h) (Or.inl ⟨by rfl, ?_⟩) hHeld ?_
      rotate_left
      · (intro w hSw; (try dsimp only at hSw); go_simp; try with_reducible rfl)
      (try simp only [Act.put, List.setIfInBounds_toArray, List.set_cons_zero, List.set_cons_succ])
      refine wpAnyH_take (i := 21) (oi := { dst := some 110, op := Op.pick (Operand.tmp 102) (Operand.tmp 109) (Operand.const (Value.bool false)), type := 4, pos := "extra.go:106", after := #[{ on := 13, ground := Ground.data }, { on := 20, ground := Ground.data }], guard := none }) (v := ?_) rfl (by kernel_rfl) (by kernel_rfl) (by kernel_rfl) (fun _ _ _ h => h) (Or.inl ⟨by rfl, ?_⟩) hHeld ?_
      rotate_left
      · (intro w hSw; (try dsimp only at hSw); go_simp; try with_reducible rfl)
      (try simp only [Act.put, List.setIfInBounds_toArray, List.set_cons_zero, List.set_cons_succ])
      refine wpAnyH_take (i := 22) (oi := { dst := some 8, op := Op.assign (Operand.tmp 110), type := 4, pos := "extra.go:106", after := #[{ on := 21, ground := Ground.data }, { on := 19, ground := Ground.chain }, { on := 0, ground := Ground.phase }, { on := 1, ground := Ground.phase }, { on := 2, ground := Ground.phase }, { on := 3, ground := Ground.phase }, { on := 4, ground := Ground.phase }, { on := 5, ground := Ground.phase }, { on := 6, ground := Ground.phase }, { on := 7, ground := Ground.phase }, { on := 8, ground := Ground.phase }, { on := 9, ground := Ground.phase }, { on := 10, ground := Ground.phase }, { on := 11, ground := Ground.phase }, { on := 12, ground := Ground.phase }, { on := 13, ground := Ground.phase }, { on := 14, ground := Ground.phase }, { on := 15, ground := Ground.phase }, { on := 16, ground := Ground.phase }, { on := 17, ground := Ground.phase }, { on := 18, ground := Ground.phase }, { on := 19, ground := Ground.phase }, { on := 20, ground := Ground.phase }, { on := 21, ground := Ground.phase }], guard := none }) (v := ?_) rfl (by kernel_rfl) (by kernel_rfl) (by kernel_rfl) (fun _ _ _ h => h) (Or.inl ⟨by rfl, ?_⟩) hHeld ?_
      rotate_left
      · (intro w hSw; (try dsimp only at hSw); go_simp; try with_reducible rfl)
      (try simp only [Act.put, List.setIfInBounds_toArray, List.set_cons_zero, List.set_cons_succ])
      refine wpAnyH_done (by kernel_rfl) ?_ _
      go_wp2
      go_ret
      exact ⟨rfl, HR4.out.two.below⟩
end Go.Proofs.YtpocjmlkhophoaaGreatDoor
