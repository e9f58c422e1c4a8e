/- yardref.Config, whole: the answer is whether the two are alike. -/
import Derived.Test.YtpocjmlkhophoaaGreatDoorCfa
import Derived.Test.YtpocjmlkhophoaaGreatDoorCfb
import Derived.Test.YtpocjmlkhophoaaGreatDoorCfd
import Derived.Test.YtpocjmlkhophoaaGreatDoorGrow2
import Derived.Test.YtpocjmlkhophoaaGreatDoorPlb
import Derived.Test.YtpocjmlkhophoaaGreatDoorPlg
import Derived.Test.YtpocjmlkhophoaaGreatDoorSizes
namespace Go.Proofs.YtpocjmlkhophoaaGreatDoor
open Go.RowKit Go.Extern.Stop Go.Stop Go.Extern

theorem cfe_any (c d : Cfg) (sl po pt ct sl2 po2 pt2 ct2 : Value) (w : World) (hl : ListsAt w c sl po pt ct) (hl2 : ListsAt w d sl2 po2 pt2 ct2) (hf : SomeC c) (hf2 : SomeC d) : Calls Tryz.prog 22 #[cfgV c sl po pt ct, cfgV d sl2 po2 pt2 ct2] w fun e w' => e = .returned (.bool (sameN c d)) ∧ Below w.heap.size w w' := by
  rcases Bool.eq_false_or_eq_true (c.own != d.own) with h0 | h0
  case inl =>
    rw [sameN_ne (show c ≠ d from fun h => by rw [h] at h0; simp at h0)]
    exact cfe_w0 c d sl po pt ct sl2 po2 pt2 ct2 w hl hl2 hf hf2 h0
  rcases Bool.eq_false_or_eq_true (c.master != d.master) with h1 | h1
  case inl =>
    rw [sameN_ne (show c ≠ d from fun h => by rw [h] at h1; simp at h1)]
    exact cfe_w1 c d sl po pt ct sl2 po2 pt2 ct2 w hl hl2 hf hf2 h0 h1
  rcases Bool.eq_false_or_eq_true (c.unsol != d.unsol) with h2 | h2
  case inl =>
    rw [sameN_ne (show c ≠ d from fun h => by rw [h] at h2; simp at h2)]
    exact cfe_w2 c d sl po pt ct sl2 po2 pt2 ct2 w hl hl2 hf hf2 h0 h1 h2
  rcases Bool.eq_false_or_eq_true (c.reply != d.reply) with h3 | h3
  case inl =>
    rw [sameN_ne (show c ≠ d from fun h => by rw [h] at h3; simp at h3)]
    exact cfe_w3 c d sl po pt ct sl2 po2 pt2 ct2 w hl hl2 hf hf2 h0 h1 h2 h3
  rcases Bool.eq_false_or_eq_true (c.silence != d.silence) with h4 | h4
  case inl =>
    rw [sameN_ne (show c ≠ d from fun h => by rw [h] at h4; simp at h4)]
    exact cfe_w4 c d sl po pt ct sl2 po2 pt2 ct2 w hl hl2 hf hf2 h0 h1 h2 h3 h4
  rcases Bool.eq_false_or_eq_true (c.retries != d.retries) with h5 | h5
  case inl =>
    rw [sameN_ne (show c ≠ d from fun h => by rw [h] at h5; simp at h5)]
    exact cfe_w5 c d sl po pt ct sl2 po2 pt2 ct2 w hl hl2 hf hf2 h0 h1 h2 h3 h4 h5
  rcases Bool.eq_false_or_eq_true (c.offline != d.offline) with h6 | h6
  case inl =>
    rw [sameN_ne (show c ≠ d from fun h => by rw [h] at h6; simp at h6)]
    exact cfe_w6 c d sl po pt ct sl2 po2 pt2 ct2 w hl hl2 hf hf2 h0 h1 h2 h3 h4 h5 h6
  rcases Bool.eq_false_or_eq_true (c.select != d.select) with h7 | h7
  case inl =>
    rw [sameN_ne (show c ≠ d from fun h => by rw [h] at h7; simp at h7)]
    exact cfe_w7 c d sl po pt ct sl2 po2 pt2 ct2 w hl hl2 hf hf2 h0 h1 h2 h3 h4 h5 h6 h7
  rcases Bool.eq_false_or_eq_true (c.confirm != d.confirm) with h8 | h8
  case inl =>
    rw [sameN_ne (show c ≠ d from fun h => by rw [h] at h8; simp at h8)]
    exact cfe_w8 c d sl po pt ct sl2 po2 pt2 ct2 w hl hl2 hf hf2 h0 h1 h2 h3 h4 h5 h6 h7 h8
  rcases Bool.eq_false_or_eq_true (c.frag != d.frag) with h9 | h9
  case inl =>
    rw [sameN_ne (show c ≠ d from fun h => by rw [h] at h9; simp at h9)]
    exact cfe_w9 c d sl po pt ct sl2 po2 pt2 ct2 w hl hl2 hf hf2 h0 h1 h2 h3 h4 h5 h6 h7 h8 h9
  rcases Bool.eq_false_or_eq_true (roomEq c d) with h10 | h10
  case inr =>
    rw [sameN_ne (show c ≠ d from fun h => by rw [h] at h10; simp [roomEq] at h10)]
    exact cfe_w10 c d sl po pt ct sl2 po2 pt2 ct2 w hl hl2 hf hf2 h0 h1 h2 h3 h4 h5 h6 h7 h8 h9 h10
  rcases Bool.eq_false_or_eq_true (eqL intEq c.slaves d.slaves) with h11 | h11
  case inr =>
    rw [sameN_ne (show c ≠ d from fun h => by rw [h, (eqL_iff intEq intEq_iff d.slaves d.slaves).2 rfl] at h11; cases h11)]
    exact cfe_w11 c d sl po pt ct sl2 po2 pt2 ct2 w hl hl2 hf hf2 h0 h1 h2 h3 h4 h5 h6 h7 h8 h9 h10 h11
  by_cases h12 : c.polls.length = d.polls.length
  case neg =>
    rw [sameN_ne (show c ≠ d from fun h => h12 (by rw [h]))]
    exact cfe_w12 c d sl po pt ct sl2 po2 pt2 ct2 w hl hl2 hf hf2 h0 h1 h2 h3 h4 h5 h6 h7 h8 h9 h10 h11 (by simp; omega)
  by_cases h13 : c.points.length = d.points.length
  case neg =>
    rw [sameN_ne (show c ≠ d from fun h => h13 (by rw [h]))]
    exact cfe_w13 c d sl po pt ct sl2 po2 pt2 ct2 w hl hl2 hf hf2 h0 h1 h2 h3 h4 h5 h6 h7 h8 h9 h10 h11 (by simp; omega) (by simp; omega)
  by_cases h14 : c.ctls.length = d.ctls.length
  case neg =>
    rw [sameN_ne (show c ≠ d from fun h => h14 (by rw [h]))]
    exact cfe_w14 c d sl po pt ct sl2 po2 pt2 ct2 w hl hl2 hf hf2 h0 h1 h2 h3 h4 h5 h6 h7 h8 h9 h10 h11 (by simp; omega) (by simp; omega) (by simp; omega)
  have e : sameN c d = (eqL pollEq c.polls d.polls && (eqL ptEq c.points d.points && eqL ctlEq c.ctls d.ctls)) := by
    simp only [bne_eq_false_iff_eq] at h0 h1 h2 h3 h4 h5 h6 h7 h8 h9
    simp [sameN, numsEq, unsEq, h0, h1, h2, h3, h4, h5, h6, h7, h8, h9, h10, h11]
  rw [e]
  exact cfe_w15 c d sl po pt ct sl2 po2 pt2 ct2 w hl hl2 hf hf2 h0 h1 h2 h3 h4 h5 h6 h7 h8 h9 h10 h11 h12 h13 h14
end Go.Proofs.YtpocjmlkhophoaaGreatDoor
/- yardlaw6.ConfigCounts answers true; all older memory stands. -/
namespace Go.Proofs.YtpocjmlkhophoaaGreatDoor
open Go.RowKit Go.Extern.Stop Go.Stop Go.Extern

set_option maxRecDepth 100000 in
set_option maxHeartbeats 8000000 in
theorem counts_any (hfirst : FirstOK) (c d : Cfg) (kind index place : Int) (sl po pt ct sl2 po2 pt2 ct2 : Value) (w : World) (hg : Ready w) (hl : ListsAt w c sl po pt ct) (hl2 : ListsAt w d sl2 po2 pt2 ct2) (hix : index ≤ 9223372036854775807) : Calls Tryz.prog 5 #[cfgV c sl po pt ct, cfgV d sl2 po2 pt2 ct2, .int .i64 kind, .int .i64 index, .int .i64 place] w fun e w' => e = .returned (.bool true) ∧ Below w.heap.size w w' := by
  have HFI := Lib.hid hfirst
  have HG := Lib.hid hg
  have HT0 := Lib.hid (two_start w c d sl po pt ct sl2 po2 pt2 ct2 hl hl2)
  have HI := Lib.hid hix
  clear hl hl2 hg hfirst hix
  go_enter Tryz.func5, Tryz.ntmps5
  unfold cfgV
  go_wp2_with fail
  generalize (w.alloc (.cells #[.int .i64 c.own, .int .i64 c.master, .bool c.unsol, .int .i64 c.reply, .int .i64 c.silence, .int .i64 c.retries, .int .i64 c.offline, .int .i64 c.select, .int .i64 c.confirm, .int .i64 c.frag, .int .i64 c.r0, .int .i64 c.r1, .int .i64 c.r2, sl, po, pt, ct] 28)).alloc (.cells #[.int .i64 d.own, .int .i64 d.master, .bool d.unsol, .int .i64 d.reply, .int .i64 d.silence, .int .i64 d.retries, .int .i64 d.offline, .int .i64 d.select, .int .i64 d.confirm, .int .i64 d.frag, .int .i64 d.r0, .int .i64 d.r1, .int .i64 d.r2, sl2, po2, pt2, ct2] 28) = w0 at *
  rw [show Value.agg #[.int .i64 c.own, .int .i64 c.master, .bool c.unsol, .int .i64 c.reply, .int .i64 c.silence, .int .i64 c.retries, .int .i64 c.offline, .int .i64 c.select, .int .i64 c.confirm, .int .i64 c.frag, .int .i64 c.r0, .int .i64 c.r1, .int .i64 c.r2, sl, po, pt, ct] = cfgV c sl po pt ct from rfl, show Value.agg #[.int .i64 d.own, .int .i64 d.master, .bool d.unsol, .int .i64 d.reply, .int .i64 d.silence, .int .i64 d.retries, .int .i64 d.offline, .int .i64 d.select, .int .i64 d.confirm, .int .i64 d.frag, .int .i64 d.r0, .int .i64 d.r1, .int .i64 d.r2, sl2, po2, pt2, ct2] = cfgV d sl2 po2 pt2 ct2 from rfl]
  refine (HFI.out _ (HG.out.on HT0.out.below)).mono ?_
  rintro e w1 ⟨rfl, hb⟩
  have HT1 := Lib.hid (HT0.out.on hb)
  clear hb HT0
  go_wp2_with (first | (refine ld28 (by rfl) _ rfl w.heap.size rfl c sl po pt ct HT1.out.b1 ?_) | (refine ld28 (by rfl) _ rfl (w.heap.size + 1) rfl d sl2 po2 pt2 ct2 HT1.out.b2 ?_))
  refine (few_any c _ _ _ _ w1 HT1.out.l1).mono ?_
  rintro e w2 ⟨rfl, hb⟩
  have HT2 := Lib.hid (HT1.out.on hb)
  clear hb HT1
  by_cases hf : FewC c
  case neg =>
    rw [decide_eq_false hf]
    go_wp2_with fail
    refine (HFI.out _ (HG.out.on HT2.out.below)).mono ?_
    rintro e w9 ⟨rfl, hb⟩
    have HZ := Lib.hid (HT2.out.on hb)
    clear hb
    go_wp2
    go_ret
    exact ⟨rfl, HZ.out.below⟩
  rw [decide_eq_true hf]
  go_wp2_with (first | (refine ld28 (by rfl) _ rfl w.heap.size rfl c sl po pt ct HT2.out.b1 ?_) | (refine ld28 (by rfl) _ rfl (w.heap.size + 1) rfl d sl2 po2 pt2 ct2 HT2.out.b2 ?_))
  refine (few_any d _ _ _ _ w2 HT2.out.l2).mono ?_
  rintro e w3 ⟨rfl, hb⟩
  have HT3 := Lib.hid (HT2.out.on hb)
  clear hb HT2
  by_cases hf2 : FewC d
  case neg =>
    rw [decide_eq_false hf2]
    go_wp2_with fail
    refine (HFI.out _ (HG.out.on HT3.out.below)).mono ?_
    rintro e w9 ⟨rfl, hb⟩
    have HZ := Lib.hid (HT3.out.on hb)
    clear hb
    go_wp2
    go_ret
    exact ⟨rfl, HZ.out.below⟩
  rw [decide_eq_true hf2]
  have HF := Lib.hid (And.intro hf hf2)
  clear hf hf2
  go_wp2_with (first | (refine ld28 (by rfl) _ rfl w.heap.size rfl c sl po pt ct HT3.out.b1 ?_) | (refine ld28 (by rfl) _ rfl (w.heap.size + 1) rfl d sl2 po2 pt2 ct2 HT3.out.b2 ?_))
  have HFA := Lib.hid (find_any c kind index sl po pt ct w3 HT3.out.l1 HF.out.1)
  have HFB := Lib.hid (fun wz hz => rfind_any c kind index sl po pt ct wz hz HF.out.1 HI.out)
  generalize findN c kind index = R at *
  obtain ⟨R1, R2⟩ := R
  refine HFA.out.mono ?_
  rintro e w4 ⟨rfl, hb⟩
  have HT4 := Lib.hid (HT3.out.on hb)
  clear hb HT3 HFA
  go_wp2_with (first | (refine ld28 (by rfl) _ rfl w.heap.size rfl c sl po pt ct HT4.out.b1 ?_) | (refine ld28 (by rfl) _ rfl (w.heap.size + 1) rfl d sl2 po2 pt2 ct2 HT4.out.b2 ?_))
  refine (HFB.out _ HT4.out.l1).mono ?_
  rintro e w5 ⟨rfl, hb⟩
  have HT5 := Lib.hid (HT4.out.on hb)
  clear hb HT4 HFB
  have HCA := Lib.hid (fun wz hz => count_any c kind sl po pt ct wz hz HF.out.1)
  have HCB := Lib.hid (fun wz hz => rcount_any c kind sl po pt ct wz hz HF.out.1)
  generalize ((placesN c kind).length : Int) = N1 at *
  have HXA := Lib.hid (fun wz hz => idx_any c place sl po pt ct wz hz HF.out.1)
  have HXB := Lib.hid (fun wz hz => ridx_any c place sl po pt ct wz hz HF.out.1)
  generalize indexN c place = N2 at *
  have HSA := Lib.hid (fun wz h1 h2 => same_any c d sl po pt ct sl2 po2 pt2 ct2 wz h1 h2 HF.out.1.some HF.out.2.some)
  have HSB := Lib.hid (fun wz h1 h2 => cfe_any c d sl po pt ct sl2 po2 pt2 ct2 wz h1 h2 HF.out.1.some HF.out.2.some)
  generalize sameN c d = sb at *
  have HSC := Lib.hid (fun wz h1 => same_any c c sl po pt ct sl po pt ct wz h1 h1 HF.out.1.some HF.out.1.some)
  rw [sameN_self c] at HSC
  go_wp2_with fail
  have HRd := Lib.hid (HT5.out.on ((Below.refl w5.heap.size w5).drew))
  refine wp_region_held_drew (S := fun w' => CfgBox w' w.heap.size c sl po pt ct ∧ CfgBox w' (w.heap.size + 1) d sl2 po2 pt2 ct2) (by kernel_rfl) ⟨HT5.out.b1, HT5.out.b2⟩ (fun hHeld => ?_)
  refine wpAnyH_ready (rs := [0]) (by kernel_rfl) (by simp) ?_
  refine AllReadyH.cons (o := { dst := some 40, op := Op.call { callee := Callee.value (Operand.func 13), args := #[], argTypes := #[] }, type := 4, pos := "law.go:66", after := #[], guard := none }) rfl (fun K hK => ?_) AllReadyH.nil
  go_simp
  refine (HFI.out _ (HG.out.on HRd.out.below)).mono ?_; rintro e' z0 ⟨rfl, hh⟩; have HR0 := Lib.hid (HRd.out.on hh); clear hh hHeld; simp only []
  refine hK.out _ _ ⟨HR0.out.b1, HR0.out.b2⟩ (fun hHeld => ?_)
  clear hK K
  (try simp only [Act.put, List.setIfInBounds_toArray, List.set_cons_zero, List.set_cons_succ])
  refine wpAnyH_take (i := 1) (oi := { dst := some 41, op := Op.move (Operand.tmp 40), type := 4, pos := "law.go:66", after := #[{ on := 0, ground := Ground.data }, { on := 0, ground := Ground.chain }], guard := none }) (v := ?_) rfl (by kernel_rfl) (by kernel_rfl) (by kernel_rfl) (fun _ _ _ h => h) (Or.inl ⟨by rfl, ?_⟩) hHeld ?_
  rotate_left
  · (intro w hSw; (try dsimp only at hSw); go_simp; try with_reducible rfl)
  (try simp only [Act.put, List.setIfInBounds_toArray, List.set_cons_zero, List.set_cons_succ])
  refine wpAnyH_take (i := 2) (oi := { dst := some 42, op := Op.load 28 (Operand.tmp 5), type := 28, pos := "law.go:66", after := #[{ on := 1, ground := Ground.guard }], guard := some (1, true) }) (v := cfgV c sl po pt ct) rfl (by kernel_rfl) (by kernel_rfl) (by kernel_rfl) (fun _ _ _ h => h) (yl28 (by rfl) _ rfl w.heap.size rfl c sl po pt ct (fun _ h => h.1)) hHeld ?_
  (try simp only [Act.put, List.setIfInBounds_toArray, List.set_cons_zero, List.set_cons_succ])
  refine wpAnyH_take (i := 3) (oi := { dst := some 43, op := Op.move (Operand.tmp 2), type := 3, pos := "law.go:66", after := #[{ on := 1, ground := Ground.guard }], guard := some (1, true) }) (v := ?_) rfl (by kernel_rfl) (by kernel_rfl) (by kernel_rfl) (fun _ _ _ h => h) (Or.inl ⟨by rfl, ?_⟩) hHeld ?_
  rotate_left
  · (intro w hSw; (try dsimp only at hSw); go_simp; try with_reducible rfl)
  (try simp only [Act.put, List.setIfInBounds_toArray, List.set_cons_zero, List.set_cons_succ])
  refine wpAnyH_take (i := 5) (oi := { dst := some 45, op := Op.load 28 (Operand.tmp 5), type := 28, pos := "law.go:66", after := #[{ on := 1, ground := Ground.guard }], guard := some (1, true) }) (v := cfgV c sl po pt ct) rfl (by kernel_rfl) (by kernel_rfl) (by kernel_rfl) (fun _ _ _ h => h) (yl28 (by rfl) _ rfl w.heap.size rfl c sl po pt ct (fun _ h => h.1)) hHeld ?_
  (try simp only [Act.put, List.setIfInBounds_toArray, List.set_cons_zero, List.set_cons_succ])
  refine wpAnyH_take (i := 6) (oi := { dst := some 46, op := Op.move (Operand.tmp 2), type := 3, pos := "law.go:66", after := #[{ on := 1, ground := Ground.guard }], guard := some (1, true) }) (v := ?_) rfl (by kernel_rfl) (by kernel_rfl) (by kernel_rfl) (fun _ _ _ h => h) (Or.inl ⟨by rfl, ?_⟩) hHeld ?_
  rotate_left
  · (intro w hSw; (try dsimp only at hSw); go_simp; try with_reducible rfl)
  (try simp only [Act.put, List.setIfInBounds_toArray, List.set_cons_zero, List.set_cons_succ])
  refine wpAnyH_ready (rs := [4]) (by kernel_rfl) (by simp) ?_
  refine AllReadyH.cons (o := { dst := some 44, op := Op.call { callee := Callee.value (Operand.func 28), args := #[Operand.tmp 42, Operand.tmp 43], argTypes := #[28, 3] }, type := 3, pos := "law.go:66", after := #[{ on := 2, ground := Ground.data }, { on := 3, ground := Ground.data }, { on := 1, ground := Ground.chain }, { on := 1, ground := Ground.guard }], guard := some (1, true) }) rfl (fun K hK => ?_) AllReadyH.nil
  go_simp
  refine (HCA.out _ HR0.out.l1).mono ?_; rintro e' z1 ⟨rfl, hh⟩; have HR1 := Lib.hid (HR0.out.on hh); clear hh hHeld; simp only []
  refine hK.out _ _ ⟨HR1.out.b1, HR1.out.b2⟩ (fun hHeld => ?_)
  clear hK K
  (try simp only [Act.put, List.setIfInBounds_toArray, List.set_cons_zero, List.set_cons_succ])
  refine wpAnyH_ready (rs := [7]) (by kernel_rfl) (by simp) ?_
  refine AllReadyH.cons (o := { dst := some 47, op := Op.call { callee := Callee.value (Operand.func 29), args := #[Operand.tmp 45, Operand.tmp 46], argTypes := #[28, 3] }, type := 3, pos := "law.go:66", after := #[{ on := 5, ground := Ground.data }, { on := 6, ground := Ground.data }, { on := 4, ground := Ground.chain }, { on := 1, ground := Ground.guard }], guard := some (1, true) }) rfl (fun K hK => ?_) AllReadyH.nil
  go_simp
  refine (HCB.out _ HR1.out.l1).mono ?_; rintro e' z2 ⟨rfl, hh⟩; have HR2 := Lib.hid (HR1.out.on hh); clear hh hHeld; simp only []
  refine hK.out _ _ ⟨HR2.out.b1, HR2.out.b2⟩ (fun hHeld => ?_)
  clear hK K
  (try simp only [Act.put, List.setIfInBounds_toArray, List.set_cons_zero, List.set_cons_succ])
  refine wpAnyH_take (i := 8) (oi := { dst := some 48, op := Op.binOp BinOp.eql 3 (Operand.tmp 44) (Operand.tmp 47) 3, type := 4, pos := "law.go:66", after := #[{ on := 4, ground := Ground.data }, { on := 7, ground := Ground.data }, { on := 1, ground := Ground.guard }], guard := some (1, true) }) (v := ?_) rfl (by kernel_rfl) (by kernel_rfl) (by kernel_rfl) (fun _ _ _ h => h) (Or.inl ⟨by rfl, ?_⟩) hHeld ?_
  rotate_left
  · (intro w hSw; (try dsimp only at hSw); go_simp; try with_reducible rfl)
  (try simp only [Act.put, List.setIfInBounds_toArray, List.set_cons_zero, List.set_cons_succ])
  refine wpAnyH_take (i := 9) (oi := { dst := some 49, op := Op.pick (Operand.tmp 41) (Operand.tmp 48) (Operand.const (Value.bool false)), type := 4, pos := "law.go:66", after := #[{ on := 1, ground := Ground.data }, { on := 8, ground := Ground.data }], guard := none }) (v := ?_) rfl (by kernel_rfl) (by kernel_rfl) (by kernel_rfl) (fun _ _ _ h => h) (Or.inl ⟨by rfl, ?_⟩) hHeld ?_
  rotate_left
  · (intro w hSw; (try dsimp only at hSw); go_simp; try with_reducible rfl)
  (try simp only [Act.put, List.setIfInBounds_toArray, List.set_cons_zero, List.set_cons_succ])
  refine wpAnyH_take (i := 10) (oi := { dst := some 50, op := Op.move (Operand.tmp 49), type := 4, pos := "law.go:66", after := #[{ on := 9, ground := Ground.data }, { on := 7, ground := Ground.chain }], guard := none }) (v := ?_) rfl (by kernel_rfl) (by kernel_rfl) (by kernel_rfl) (fun _ _ _ h => h) (Or.inl ⟨by rfl, ?_⟩) hHeld ?_
  rotate_left
  · (intro w hSw; (try dsimp only at hSw); go_simp; try with_reducible rfl)
  (try simp only [Act.put, List.setIfInBounds_toArray, List.set_cons_zero, List.set_cons_succ])
  refine wpAnyH_take (i := 11) (oi := { dst := some 51, op := Op.move (Operand.tmp 11), type := 3, pos := "law.go:66", after := #[{ on := 10, ground := Ground.guard }], guard := some (10, true) }) (v := ?_) rfl (by kernel_rfl) (by kernel_rfl) (by kernel_rfl) (fun _ _ _ h => h) (Or.inl ⟨by rfl, ?_⟩) hHeld ?_
  rotate_left
  · (intro w hSw; (try dsimp only at hSw); go_simp; try with_reducible rfl)
  (try simp only [Act.put, List.setIfInBounds_toArray, List.set_cons_zero, List.set_cons_succ])
  refine wpAnyH_take (i := 12) (oi := { dst := some 52, op := Op.move (Operand.tmp 13), type := 3, pos := "law.go:66", after := #[{ on := 10, ground := Ground.guard }], guard := some (10, true) }) (v := ?_) rfl (by kernel_rfl) (by kernel_rfl) (by kernel_rfl) (fun _ _ _ h => h) (Or.inl ⟨by rfl, ?_⟩) hHeld ?_
  rotate_left
  · (intro w hSw; (try dsimp only at hSw); go_simp; try with_reducible rfl)
  (try simp only [Act.put, List.setIfInBounds_toArray, List.set_cons_zero, List.set_cons_succ])
  refine wpAnyH_take (i := 13) (oi := { dst := some 53, op := Op.binOp BinOp.eql 3 (Operand.tmp 51) (Operand.tmp 52) 3, type := 4, pos := "law.go:66", after := #[{ on := 11, ground := Ground.data }, { on := 12, ground := Ground.data }, { on := 10, ground := Ground.guard }], guard := some (10, true) }) (v := ?_) rfl (by kernel_rfl) (by kernel_rfl) (by kernel_rfl) (fun _ _ _ h => h) (Or.inl ⟨by rfl, ?_⟩) hHeld ?_
  rotate_left
  · (intro w hSw; (try dsimp only at hSw); go_simp; try with_reducible rfl)
  (try simp only [Act.put, List.setIfInBounds_toArray, List.set_cons_zero, List.set_cons_succ])
  refine wpAnyH_take (i := 14) (oi := { dst := some 54, op := Op.pick (Operand.tmp 50) (Operand.tmp 53) (Operand.const (Value.bool false)), type := 4, pos := "law.go:66", after := #[{ on := 10, ground := Ground.data }, { on := 13, ground := Ground.data }], guard := none }) (v := ?_) rfl (by kernel_rfl) (by kernel_rfl) (by kernel_rfl) (fun _ _ _ h => h) (Or.inl ⟨by rfl, ?_⟩) hHeld ?_
  rotate_left
  · (intro w hSw; (try dsimp only at hSw); go_simp; try with_reducible rfl)
  (try simp only [Act.put, List.setIfInBounds_toArray, List.set_cons_zero, List.set_cons_succ])
  refine wpAnyH_take (i := 15) (oi := { dst := some 55, op := Op.move (Operand.tmp 54), type := 4, pos := "law.go:66", after := #[{ on := 14, ground := Ground.data }, { on := 10, ground := Ground.chain }], guard := none }) (v := ?_) rfl (by kernel_rfl) (by kernel_rfl) (by kernel_rfl) (fun _ _ _ h => h) (Or.inl ⟨by rfl, ?_⟩) hHeld ?_
  rotate_left
  · (intro w hSw; (try dsimp only at hSw); go_simp; try with_reducible rfl)
  (try simp only [Act.put, List.setIfInBounds_toArray, List.set_cons_zero, List.set_cons_succ])
  refine wpAnyH_take (i := 16) (oi := { dst := some 56, op := Op.move (Operand.tmp 12), type := 4, pos := "law.go:66", after := #[{ on := 15, ground := Ground.guard }], guard := some (15, true) }) (v := ?_) rfl (by kernel_rfl) (by kernel_rfl) (by kernel_rfl) (fun _ _ _ h => h) (Or.inl ⟨by rfl, ?_⟩) hHeld ?_
  rotate_left
  · (intro w hSw; (try dsimp only at hSw); go_simp; try with_reducible rfl)
  (try simp only [Act.put, List.setIfInBounds_toArray, List.set_cons_zero, List.set_cons_succ])
  refine wpAnyH_take (i := 17) (oi := { dst := some 57, op := Op.move (Operand.tmp 14), type := 4, pos := "law.go:66", after := #[{ on := 15, ground := Ground.guard }], guard := some (15, true) }) (v := ?_) rfl (by kernel_rfl) (by kernel_rfl) (by kernel_rfl) (fun _ _ _ h => h) (Or.inl ⟨by rfl, ?_⟩) hHeld ?_
  rotate_left
  · (intro w hSw; (try dsimp only at hSw); go_simp; try with_reducible rfl)
  (try simp only [Act.put, List.setIfInBounds_toArray, List.set_cons_zero, List.set_cons_succ])
  refine wpAnyH_take (i := 18) (oi := { dst := some 58, op := Op.binOp BinOp.eql 4 (Operand.tmp 56) (Operand.tmp 57) 4, type := 4, pos := "law.go:66", after := #[{ on := 16, ground := Ground.data }, { on := 17, ground := Ground.data }, { on := 15, ground := Ground.guard }], guard := some (15, true) }) (v := ?_) rfl (by kernel_rfl) (by kernel_rfl) (by kernel_rfl) (fun _ _ _ h => h) (Or.inl ⟨by rfl, ?_⟩) hHeld ?_
  rotate_left
  · (intro w hSw; (try dsimp only at hSw); go_simp; try with_reducible rfl)
  (try simp only [Act.put, List.setIfInBounds_toArray, List.set_cons_zero, List.set_cons_succ])
  refine wpAnyH_take (i := 19) (oi := { dst := some 59, op := Op.pick (Operand.tmp 55) (Operand.tmp 58) (Operand.const (Value.bool false)), type := 4, pos := "law.go:66", after := #[{ on := 15, ground := Ground.data }, { on := 18, ground := Ground.data }], guard := none }) (v := ?_) rfl (by kernel_rfl) (by kernel_rfl) (by kernel_rfl) (fun _ _ _ h => h) (Or.inl ⟨by rfl, ?_⟩) hHeld ?_
  rotate_left
  · (intro w hSw; (try dsimp only at hSw); go_simp; try with_reducible rfl)
  (try simp only [Act.put, List.setIfInBounds_toArray, List.set_cons_zero, List.set_cons_succ])
  refine wpAnyH_take (i := 20) (oi := { dst := some 60, op := Op.move (Operand.tmp 59), type := 4, pos := "law.go:66", after := #[{ on := 19, ground := Ground.data }, { on := 15, ground := Ground.chain }], guard := none }) (v := ?_) rfl (by kernel_rfl) (by kernel_rfl) (by kernel_rfl) (fun _ _ _ h => h) (Or.inl ⟨by rfl, ?_⟩) hHeld ?_
  rotate_left
  · (intro w hSw; (try dsimp only at hSw); go_simp; try with_reducible rfl)
  (try simp only [Act.put, List.setIfInBounds_toArray, List.set_cons_zero, List.set_cons_succ])
  refine wpAnyH_take (i := 21) (oi := { dst := some 61, op := Op.load 28 (Operand.tmp 5), type := 28, pos := "law.go:66", after := #[{ on := 20, ground := Ground.guard }], guard := some (20, true) }) (v := cfgV c sl po pt ct) rfl (by kernel_rfl) (by kernel_rfl) (by kernel_rfl) (fun _ _ _ h => h) (yl28 (by rfl) _ rfl w.heap.size rfl c sl po pt ct (fun _ h => h.1)) hHeld ?_
  (try simp only [Act.put, List.setIfInBounds_toArray, List.set_cons_zero, List.set_cons_succ])
  refine wpAnyH_take (i := 22) (oi := { dst := some 62, op := Op.move (Operand.tmp 4), type := 3, pos := "law.go:66", after := #[{ on := 20, ground := Ground.guard }], guard := some (20, true) }) (v := ?_) rfl (by kernel_rfl) (by kernel_rfl) (by kernel_rfl) (fun _ _ _ h => h) (Or.inl ⟨by rfl, ?_⟩) hHeld ?_
  rotate_left
  · (intro w hSw; (try dsimp only at hSw); go_simp; try with_reducible rfl)
  (try simp only [Act.put, List.setIfInBounds_toArray, List.set_cons_zero, List.set_cons_succ])
  refine wpAnyH_take (i := 24) (oi := { dst := some 64, op := Op.load 28 (Operand.tmp 5), type := 28, pos := "law.go:66", after := #[{ on := 20, ground := Ground.guard }], guard := some (20, true) }) (v := cfgV c sl po pt ct) rfl (by kernel_rfl) (by kernel_rfl) (by kernel_rfl) (fun _ _ _ h => h) (yl28 (by rfl) _ rfl w.heap.size rfl c sl po pt ct (fun _ h => h.1)) hHeld ?_
  (try simp only [Act.put, List.setIfInBounds_toArray, List.set_cons_zero, List.set_cons_succ])
  refine wpAnyH_take (i := 25) (oi := { dst := some 65, op := Op.move (Operand.tmp 4), type := 3, pos := "law.go:66", after := #[{ on := 20, ground := Ground.guard }], guard := some (20, true) }) (v := ?_) rfl (by kernel_rfl) (by kernel_rfl) (by kernel_rfl) (fun _ _ _ h => h) (Or.inl ⟨by rfl, ?_⟩) hHeld ?_
  rotate_left
  · (intro w hSw; (try dsimp only at hSw); go_simp; try with_reducible rfl)
  (try simp only [Act.put, List.setIfInBounds_toArray, List.set_cons_zero, List.set_cons_succ])
  refine wpAnyH_ready (rs := [23]) (by kernel_rfl) (by simp) ?_
  refine AllReadyH.cons (o := { dst := some 63, op := Op.call { callee := Callee.value (Operand.func 30), args := #[Operand.tmp 61, Operand.tmp 62], argTypes := #[28, 3] }, type := 3, pos := "law.go:66", after := #[{ on := 21, ground := Ground.data }, { on := 22, ground := Ground.data }, { on := 20, ground := Ground.chain }, { on := 20, ground := Ground.guard }], guard := some (20, true) }) rfl (fun K hK => ?_) AllReadyH.nil
  go_simp
  refine (HXA.out _ HR2.out.l1).mono ?_; rintro e' z3 ⟨rfl, hh⟩; have HR3 := Lib.hid (HR2.out.on hh); clear hh hHeld; simp only []
  refine hK.out _ _ ⟨HR3.out.b1, HR3.out.b2⟩ (fun hHeld => ?_)
  clear hK K
  (try simp only [Act.put, List.setIfInBounds_toArray, List.set_cons_zero, List.set_cons_succ])
  refine wpAnyH_ready (rs := [26]) (by kernel_rfl) (by simp) ?_
  refine AllReadyH.cons (o := { dst := some 66, op := Op.call { callee := Callee.value (Operand.func 31), args := #[Operand.tmp 64, Operand.tmp 65], argTypes := #[28, 3] }, type := 3, pos := "law.go:66", after := #[{ on := 24, ground := Ground.data }, { on := 25, ground := Ground.data }, { on := 23, ground := Ground.chain }, { on := 20, ground := Ground.guard }], guard := some (20, true) }) rfl (fun K hK => ?_) AllReadyH.nil
  go_simp
  refine (HXB.out _ HR3.out.l1).mono ?_; rintro e' z4 ⟨rfl, hh⟩; have HR4 := Lib.hid (HR3.out.on hh); clear hh hHeld; simp only []
  refine hK.out _ _ ⟨HR4.out.b1, HR4.out.b2⟩ (fun hHeld => ?_)
  clear hK K
  (try simp only [Act.put, List.setIfInBounds_toArray, List.set_cons_zero, List.set_cons_succ])
  refine wpAnyH_take (i := 27) (oi := { dst := some 67, op := Op.binOp BinOp.eql 3 (Operand.tmp 63) (Operand.tmp 66) 3, type := 4, pos := "law.go:66", after := #[{ on := 23, ground := Ground.data }, { on := 26, ground := Ground.data }, { on := 20, ground := Ground.guard }], guard := some (20, true) }) (v := ?_) rfl (by kernel_rfl) (by kernel_rfl) (by kernel_rfl) (fun _ _ _ h => h) (Or.inl ⟨by rfl, ?_⟩) hHeld ?_
  rotate_left
  · (intro w hSw; (try dsimp only at hSw); go_simp; try with_reducible rfl)
  (try simp only [Act.put, List.setIfInBounds_toArray, List.set_cons_zero, List.set_cons_succ])
  refine wpAnyH_take (i := 28) (oi := { dst := some 68, op := Op.pick (Operand.tmp 60) (Operand.tmp 67) (Operand.const (Value.bool false)), type := 4, pos := "law.go:66", after := #[{ on := 20, ground := Ground.data }, { on := 27, ground := Ground.data }], guard := none }) (v := ?_) rfl (by kernel_rfl) (by kernel_rfl) (by kernel_rfl) (fun _ _ _ h => h) (Or.inl ⟨by rfl, ?_⟩) hHeld ?_
  rotate_left
  · (intro w hSw; (try dsimp only at hSw); go_simp; try with_reducible rfl)
  (try simp only [Act.put, List.setIfInBounds_toArray, List.set_cons_zero, List.set_cons_succ])
  refine wpAnyH_take (i := 29) (oi := { dst := some 69, op := Op.move (Operand.tmp 68), type := 4, pos := "law.go:66", after := #[{ on := 28, ground := Ground.data }, { on := 26, ground := Ground.chain }], guard := none }) (v := ?_) rfl (by kernel_rfl) (by kernel_rfl) (by kernel_rfl) (fun _ _ _ h => h) (Or.inl ⟨by rfl, ?_⟩) hHeld ?_
  rotate_left
  · (intro w hSw; (try dsimp only at hSw); go_simp; try with_reducible rfl)
  (try simp only [Act.put, List.setIfInBounds_toArray, List.set_cons_zero, List.set_cons_succ])
  refine wpAnyH_take (i := 30) (oi := { dst := some 70, op := Op.load 28 (Operand.tmp 5), type := 28, pos := "law.go:66", after := #[{ on := 29, ground := Ground.guard }], guard := some (29, true) }) (v := cfgV c sl po pt ct) rfl (by kernel_rfl) (by kernel_rfl) (by kernel_rfl) (fun _ _ _ h => h) (yl28 (by rfl) _ rfl w.heap.size rfl c sl po pt ct (fun _ h => h.1)) hHeld ?_
  (try simp only [Act.put, List.setIfInBounds_toArray, List.set_cons_zero, List.set_cons_succ])
  refine wpAnyH_take (i := 31) (oi := { dst := some 71, op := Op.load 28 (Operand.tmp 6), type := 28, pos := "law.go:66", after := #[{ on := 29, ground := Ground.guard }], guard := some (29, true) }) (v := cfgV d sl2 po2 pt2 ct2) rfl (by kernel_rfl) (by kernel_rfl) (by kernel_rfl) (fun _ _ _ h => h) (yl28 (by rfl) _ rfl (w.heap.size + 1) rfl d sl2 po2 pt2 ct2 (fun _ h => h.2)) hHeld ?_
  (try simp only [Act.put, List.setIfInBounds_toArray, List.set_cons_zero, List.set_cons_succ])
  refine wpAnyH_take (i := 33) (oi := { dst := some 73, op := Op.load 28 (Operand.tmp 5), type := 28, pos := "law.go:66", after := #[{ on := 29, ground := Ground.guard }], guard := some (29, true) }) (v := cfgV c sl po pt ct) rfl (by kernel_rfl) (by kernel_rfl) (by kernel_rfl) (fun _ _ _ h => h) (yl28 (by rfl) _ rfl w.heap.size rfl c sl po pt ct (fun _ h => h.1)) hHeld ?_
  (try simp only [Act.put, List.setIfInBounds_toArray, List.set_cons_zero, List.set_cons_succ])
  refine wpAnyH_take (i := 34) (oi := { dst := some 74, op := Op.load 28 (Operand.tmp 6), type := 28, pos := "law.go:66", after := #[{ on := 29, ground := Ground.guard }], guard := some (29, true) }) (v := cfgV d sl2 po2 pt2 ct2) rfl (by kernel_rfl) (by kernel_rfl) (by kernel_rfl) (fun _ _ _ h => h) (yl28 (by rfl) _ rfl (w.heap.size + 1) rfl d sl2 po2 pt2 ct2 (fun _ h => h.2)) hHeld ?_
  (try simp only [Act.put, List.setIfInBounds_toArray, List.set_cons_zero, List.set_cons_succ])
  refine wpAnyH_ready (rs := [32]) (by kernel_rfl) (by simp) ?_
  refine AllReadyH.cons (o := { dst := some 72, op := Op.call { callee := Callee.value (Operand.func 32), args := #[Operand.tmp 70, Operand.tmp 71], argTypes := #[28, 28] }, type := 4, pos := "law.go:66", after := #[{ on := 30, ground := Ground.data }, { on := 31, ground := Ground.data }, { on := 29, ground := Ground.chain }, { on := 29, ground := Ground.guard }], guard := some (29, true) }) rfl (fun K hK => ?_) AllReadyH.nil
  go_simp
  refine (HSA.out _ HR4.out.l1 HR4.out.l2).mono ?_; rintro e' z5 ⟨rfl, hh⟩; have HR5 := Lib.hid (HR4.out.on hh); clear hh hHeld; simp only []
  refine hK.out _ _ ⟨HR5.out.b1, HR5.out.b2⟩ (fun hHeld => ?_)
  clear hK K
  (try simp only [Act.put, List.setIfInBounds_toArray, List.set_cons_zero, List.set_cons_succ])
  refine wpAnyH_ready (rs := [35]) (by kernel_rfl) (by simp) ?_
  refine AllReadyH.cons (o := { dst := some 75, op := Op.call { callee := Callee.value (Operand.func 22), args := #[Operand.tmp 73, Operand.tmp 74], argTypes := #[28, 28] }, type := 4, pos := "law.go:66", after := #[{ on := 33, ground := Ground.data }, { on := 34, ground := Ground.data }, { on := 32, ground := Ground.chain }, { on := 29, ground := Ground.guard }], guard := some (29, true) }) rfl (fun K hK => ?_) AllReadyH.nil
  go_simp
  refine (HSB.out _ HR5.out.l1 HR5.out.l2).mono ?_; rintro e' z6 ⟨rfl, hh⟩; have HR6 := Lib.hid (HR5.out.on hh); clear hh hHeld; simp only []
  refine hK.out _ _ ⟨HR6.out.b1, HR6.out.b2⟩ (fun hHeld => ?_)
  clear hK K
  (try simp only [Act.put, List.setIfInBounds_toArray, List.set_cons_zero, List.set_cons_succ])
  refine wpAnyH_take (i := 36) (oi := { dst := some 76, op := Op.binOp BinOp.eql 4 (Operand.tmp 72) (Operand.tmp 75) 4, type := 4, pos := "law.go:66", after := #[{ on := 32, ground := Ground.data }, { on := 35, ground := Ground.data }, { on := 29, ground := Ground.guard }], guard := some (29, true) }) (v := ?_) rfl (by kernel_rfl) (by kernel_rfl) (by kernel_rfl) (fun _ _ _ h => h) (Or.inl ⟨by rfl, ?_⟩) hHeld ?_
  rotate_left
  · (intro w hSw; (try dsimp only at hSw); go_simp; try with_reducible rfl)
  (try simp only [Act.put, List.setIfInBounds_toArray, List.set_cons_zero, List.set_cons_succ])
  refine wpAnyH_take (i := 37) (oi := { dst := some 77, op := Op.pick (Operand.tmp 69) (Operand.tmp 76) (Operand.const (Value.bool false)), type := 4, pos := "law.go:66", after := #[{ on := 29, ground := Ground.data }, { on := 36, ground := Ground.data }], guard := none }) (v := ?_) rfl (by kernel_rfl) (by kernel_rfl) (by kernel_rfl) (fun _ _ _ h => h) (Or.inl ⟨by rfl, ?_⟩) hHeld ?_
  rotate_left
  · (intro w hSw; (try dsimp only at hSw); go_simp; try with_reducible rfl)
  (try simp only [Act.put, List.setIfInBounds_toArray, List.set_cons_zero, List.set_cons_succ])
  refine wpAnyH_take (i := 38) (oi := { dst := some 78, op := Op.move (Operand.tmp 77), type := 4, pos := "law.go:66", after := #[{ on := 37, ground := Ground.data }, { on := 35, ground := Ground.chain }], guard := none }) (v := ?_) rfl (by kernel_rfl) (by kernel_rfl) (by kernel_rfl) (fun _ _ _ h => h) (Or.inl ⟨by rfl, ?_⟩) hHeld ?_
  rotate_left
  · (intro w hSw; (try dsimp only at hSw); go_simp; try with_reducible rfl)
  (try simp only [Act.put, List.setIfInBounds_toArray, List.set_cons_zero, List.set_cons_succ])
  refine wpAnyH_take (i := 39) (oi := { dst := some 79, op := Op.load 28 (Operand.tmp 5), type := 28, pos := "law.go:66", after := #[{ on := 38, ground := Ground.guard }], guard := some (38, true) }) (v := cfgV c sl po pt ct) rfl (by kernel_rfl) (by kernel_rfl) (by kernel_rfl) (fun _ _ _ h => h) (yl28 (by rfl) _ rfl w.heap.size rfl c sl po pt ct (fun _ h => h.1)) hHeld ?_
  (try simp only [Act.put, List.setIfInBounds_toArray, List.set_cons_zero, List.set_cons_succ])
  refine wpAnyH_take (i := 40) (oi := { dst := some 80, op := Op.load 28 (Operand.tmp 5), type := 28, pos := "law.go:66", after := #[{ on := 38, ground := Ground.guard }], guard := some (38, true) }) (v := cfgV c sl po pt ct) rfl (by kernel_rfl) (by kernel_rfl) (by kernel_rfl) (fun _ _ _ h => h) (yl28 (by rfl) _ rfl w.heap.size rfl c sl po pt ct (fun _ h => h.1)) hHeld ?_
  (try simp only [Act.put, List.setIfInBounds_toArray, List.set_cons_zero, List.set_cons_succ])
  refine wpAnyH_ready (rs := [41]) (by kernel_rfl) (by simp) ?_
  refine AllReadyH.cons (o := { dst := some 81, op := Op.call { callee := Callee.value (Operand.func 32), args := #[Operand.tmp 79, Operand.tmp 80], argTypes := #[28, 28] }, type := 4, pos := "law.go:66", after := #[{ on := 39, ground := Ground.data }, { on := 40, ground := Ground.data }, { on := 38, ground := Ground.chain }, { on := 38, ground := Ground.guard }], guard := some (38, true) }) rfl (fun K hK => ?_) AllReadyH.nil
  go_simp
  refine (HSC.out _ HR6.out.l1).mono ?_; rintro e' z7 ⟨rfl, hh⟩; have HR7 := Lib.hid (HR6.out.on hh); clear hh hHeld; simp only []
  refine hK.out _ _ ⟨HR7.out.b1, HR7.out.b2⟩ (fun hHeld => ?_)
  clear hK K
  (try simp only [Act.put, List.setIfInBounds_toArray, List.set_cons_zero, List.set_cons_succ])
  refine wpAnyH_take (i := 42) (oi := { dst := some 82, op := Op.pick (Operand.tmp 78) (Operand.tmp 81) (Operand.const (Value.bool false)), type := 4, pos := "law.go:66", after := #[{ on := 38, ground := Ground.data }, { on := 41, ground := Ground.data }], guard := none }) (v := ?_) rfl (by kernel_rfl) (by kernel_rfl) (by kernel_rfl) (fun _ _ _ h => h) (Or.inl ⟨by rfl, ?_⟩) hHeld ?_
  rotate_left
  · (intro w hSw; (try dsimp only at hSw); go_simp; try with_reducible rfl)
  (try simp only [Act.put, List.setIfInBounds_toArray, List.set_cons_zero, List.set_cons_succ])
  refine wpAnyH_take (i := 43) (oi := { dst := some 10, op := Op.assign (Operand.tmp 82), type := 4, pos := "law.go:66", after := #[{ on := 42, ground := Ground.data }, { on := 41, ground := Ground.chain }, { on := 0, ground := Ground.phase }, { on := 1, ground := Ground.phase }, { on := 2, ground := Ground.phase }, { on := 3, ground := Ground.phase }, { on := 4, ground := Ground.phase }, { on := 5, ground := Ground.phase }, { on := 6, ground := Ground.phase }, { on := 7, ground := Ground.phase }, { on := 8, ground := Ground.phase }, { on := 9, ground := Ground.phase }, { on := 10, ground := Ground.phase }, { on := 11, ground := Ground.phase }, { on := 12, ground := Ground.phase }, { on := 13, ground := Ground.phase }, { on := 14, ground := Ground.phase }, { on := 15, ground := Ground.phase }, { on := 16, ground := Ground.phase }, { on := 17, ground := Ground.phase }, { on := 18, ground := Ground.phase }, { on := 19, ground := Ground.phase }, { on := 20, ground := Ground.phase }, { on := 21, ground := Ground.phase }, { on := 22, ground := Ground.phase }, { on := 23, ground := Ground.phase }, { on := 24, ground := Ground.phase }, { on := 25, ground := Ground.phase }, { on := 26, ground := Ground.phase }, { on := 27, ground := Ground.phase }, { on := 28, ground := Ground.phase }, { on := 29, ground := Ground.phase }, { on := 30, ground := Ground.phase }, { on := 31, ground := Ground.phase }, { on := 32, ground := Ground.phase }, { on := 33, ground := Ground.phase }, { on := 34, ground := Ground.phase }, { on := 35, ground := Ground.phase }, { on := 36, ground := Ground.phase }, { on := 37, ground := Ground.phase }, { on := 38, ground := Ground.phase }, { on := 39, ground := Ground.phase }, { on := 40, ground := Ground.phase }, { on := 41, ground := Ground.phase }, { on := 42, ground := Ground.phase }], guard := none }) (v := ?_) rfl (by kernel_rfl) (by kernel_rfl) (by kernel_rfl) (fun _ _ _ h => h) (Or.inl ⟨by rfl, ?_⟩) hHeld ?_
  rotate_left
  · (intro w hSw; (try dsimp only at hSw); go_simp; try with_reducible rfl)
  (try simp only [Act.put, List.setIfInBounds_toArray, List.set_cons_zero, List.set_cons_succ])
  refine wpAnyH_done (by kernel_rfl) ?_ _
  go_wp2
  go_ret
  exact ⟨rfl, HR7.out.below⟩
end Go.Proofs.YtpocjmlkhophoaaGreatDoor
