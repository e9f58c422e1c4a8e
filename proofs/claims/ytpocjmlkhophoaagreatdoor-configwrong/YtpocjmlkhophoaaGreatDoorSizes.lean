/- yardlaw6.ConfigSizes answers true; all older memory stands. -/
import Derived.Test.YtpocjmlkhophoaaGreatDoorFew
namespace Go.Proofs.YtpocjmlkhophoaaGreatDoor
open Go.RowKit Go.Extern.Stop Go.Stop Go.Extern

def FirstOK : Prop := ∀ w : World, Ready w → Calls Tryz.prog 13 #[] w fun e w' => e = .returned (.bool true) ∧ Below w.heap.size w w'
theorem image_head (c : Cfg) : ∃ r, imageB c = 83 :: 89 :: 1 :: r := ⟨_, rfl⟩
theorem image_length (c : Cfg) : (imageB c).length = 28 + c.slaves.length + 7 * c.polls.length + 16 * c.points.length + 4 * c.ctls.length := by
  unfold imageB
  rw [List.length_append, leBytes_length, bodyB_length]
  omega
theorem print_bytes (c : Cfg) (sl po pt ct : Value) (w : World) (hl : ListsAt w c sl po pt ct) (hf : FewC c) (hc : (checkR c).2 = 0) : Calls Tryz.prog 17 #[cfgV c sl po pt ct] w fun e w' => ∃ g off n cp, e = .returned (.tuple #[.slice (some ⟨g, off, none⟩) n cp, .nilIface]) ∧ n = 28 + c.slaves.length + 7 * c.polls.length + 16 * c.points.length + 4 * c.ctls.length ∧ w'.cell? ⟨g, off, none⟩ = some (.int .u8 83) ∧ w'.cell? ⟨g, off + 1, none⟩ = some (.int .u8 89) ∧ w'.cell? ⟨g, off + 2, none⟩ = some (.int .u8 1) ∧ Below w.heap.size w w' := by
  refine (print_ok c sl po pt ct w hl hf hc).mono ?_
  rintro e w2 ⟨v, rfl, ho, hb⟩
  obtain ⟨r, hr⟩ := image_head c
  have hlen := image_length c
  generalize imageB c = l at ho hr hlen
  subst hr
  obtain ⟨ao, cap, rfl, hcell⟩ := bytesAt_own ho
  obtain ⟨g, off, rfl, h0⟩ := hcell 0 (by simp)
  obtain ⟨g1, off1, e1, h1⟩ := hcell 1 (by simp)
  obtain ⟨g2, off2, e2, h2⟩ := hcell 2 (by simp)
  simp only [Option.some.injEq, Addr.mk.injEq, and_true] at e1 e2
  obtain ⟨rfl, rfl⟩ := e1
  obtain ⟨rfl, rfl⟩ := e2
  exact ⟨g, off, _, cap, rfl, hlen, by simpa using h0, by simpa using h1, by simpa using h2, hb⟩
set_option maxRecDepth 100000 in
set_option maxHeartbeats 4000000 in
theorem sizes_any (hfirst : FirstOK) (c : Cfg) (sl po pt ct : Value) (w : World) (hg : Ready w) (hl : ListsAt w c sl po pt ct) : Calls Tryz.prog 11 #[cfgV c sl po pt ct] w fun e w' => e = .returned (.bool true) ∧ Below w.heap.size w w' := by
  have HFI := Lib.hid hfirst
  have HG := Lib.hid hg
  have HB := Lib.hid (below_new w (.cells #[.int .i64 c.own, .int .i64 c.master, .bool c.unsol, .int .i64 c.reply, .int .i64 c.silence, .int .i64 c.retries, .int .i64 c.offline, .int .i64 c.select, .int .i64 c.confirm, .int .i64 c.frag, .int .i64 c.r0, .int .i64 c.r1, .int .i64 c.r2, sl, po, pt, ct] 28))
  have HX := Lib.hid (cfgBox_new w c sl po pt ct)
  have HL := Lib.hid (hl.on HB.out)
  obtain ⟨a1, q1, rfl, _⟩ := hl.sl.form
  obtain ⟨a2, q2, rfl, _⟩ := hl.po.form
  obtain ⟨a3, q3, rfl, _⟩ := hl.pt.form
  obtain ⟨a4, q4, rfl, _⟩ := hl.ct.form
  clear hl hfirst hg
  unfold cfgV
  go_enter Tryz.func11, Tryz.ntmps11
  go_wp2_with fail
  refine (HFI.out _ (HG.out.on HB.out)).mono ?_
  rintro e w1 ⟨rfl, hb1⟩
  have HX1 := Lib.hid (HX.out.on hb1)
  have HL1 := Lib.hid (HL.out.on hb1)
  have HB1 := Lib.hid (HB.out.trans (hb1.mono HB.out.size))
  clear hb1 HX HL HB
  obtain ⟨k0, k1, k2, k3, k4, k5, k6, k7, k8, k9, k10, k11, k12⟩ := HX1.out.fields
  obtain ⟨k13, k14, k15, k16⟩ := HX1.out.lists
  go_wp2_with fail
  refine (few_any c _ _ _ _ w1 HL1.out).mono ?_
  rintro e w2 ⟨rfl, hb2⟩
  have HX2 := Lib.hid (HX1.out.on hb2)
  have HL2 := Lib.hid (HL1.out.on hb2)
  have HB2 := Lib.hid (HB1.out.trans (hb2.mono HB1.out.size))
  clear hb2 HX1 HL1 HB1 k0 k1 k2 k3 k4 k5 k6 k7 k8 k9 k10 k11 k12 k13 k14 k15 k16
  by_cases hf : FewC c
  case neg =>
    rw [decide_eq_false hf]
    go_wp2_with fail
    refine (HFI.out _ (HG.out.on HB2.out)).mono ?_
    rintro e w3 ⟨rfl, hb3⟩
    have HB3 := Lib.hid (HB2.out.trans (hb3.mono HB2.out.size))
    clear hb3
    go_wp2
    go_ret
    exact ⟨rfl, HB3.out⟩
  rw [decide_eq_true hf]
  obtain ⟨k0, k1, k2, k3, k4, k5, k6, k7, k8, k9, k10, k11, k12⟩ := HX2.out.fields
  obtain ⟨k13, k14, k15, k16⟩ := HX2.out.lists
  have HF := Lib.hid hf
  clear hf
  by_cases hk : (checkR c).2 = 0
  case neg =>
    go_wp2_with fail
    refine (print_no c _ _ _ _ w2 HL2.out HF.out hk).mono ?_
    rintro e w3 ⟨v, rfl, he, hb3⟩
    have HB3 := Lib.hid (HB2.out.trans (hb3.mono HB2.out.size))
    obtain ⟨t, y, rfl⟩ := errIs_iface hk he
    clear hb3 he hk k0 k1 k2 k3 k4 k5 k6 k7 k8 k9 k10 k11 k12 k13 k14 k15 k16
    go_wp2_with fail
    refine (HFI.out _ (HG.out.on HB3.out)).mono ?_
    rintro e w4 ⟨rfl, hb4⟩
    have HB4 := Lib.hid (HB3.out.trans (hb4.mono HB3.out.size))
    clear hb4
    go_wp2
    go_ret
    exact ⟨rfl, HB4.out⟩
  have f1 : (c.slaves.length : Int) ≤ 300 := by have := HF.out.1; omega
  have f2 : (c.polls.length : Int) ≤ 300 := by have := HF.out.2.1; omega
  have f3 : (c.points.length : Int) ≤ 300 := by have := HF.out.2.2.1; omega
  have f4 : (c.ctls.length : Int) ≤ 300 := by have := HF.out.2.2.2; omega
  go_wp2_with fail
  refine (print_bytes c _ _ _ _ w2 HL2.out HF.out hk).mono ?_
  rintro e w3 ⟨g, off, n, cp, rfl, hn, c0, c1, c2, hb3⟩
  have HB3 := Lib.hid (HB2.out.trans (hb3.mono HB2.out.size))
  have HX3 := Lib.hid (HX2.out.on hb3)
  have HC3 := Lib.hid (And.intro c0 (And.intro c1 c2))
  clear hb3 hk HX2 HL2 k0 k1 k2 k3 k4 k5 k6 k7 k8 k9 k10 k11 k12 k13 k14 k15 k16 c0 c1 c2
  go_wp2_with fail
  refine (HFI.out _ (HG.out.on HB3.out)).mono ?_
  rintro e w4 ⟨rfl, hb4⟩
  have HB4 := Lib.hid (HB3.out.trans (hb4.mono HB3.out.size))
  have HX4 := Lib.hid (HX3.out.on hb4)
  have d0 : w4.cell? ⟨g, off, none⟩ = some (.int .u8 83) := (hb4.cell (lt_cell HC3.out.1)).trans HC3.out.1
  have d1 : w4.cell? ⟨g, off + 1, none⟩ = some (.int .u8 89) := (hb4.cell (lt_cell HC3.out.2.1)).trans HC3.out.2.1
  have d2 : w4.cell? ⟨g, off + 2, none⟩ = some (.int .u8 1) := (hb4.cell (lt_cell HC3.out.2.2)).trans HC3.out.2.2
  have hn' : (n : Int) = 28 + (c.slaves.length : Int) + 7 * (c.polls.length : Int) + 16 * (c.points.length : Int) + 4 * (c.ctls.length : Int) := by omega
  have i0 : 0 < n := by omega
  have i1 : 1 < n := by omega
  have i2 : 2 < n := by omega
  obtain ⟨k0, k1, k2, k3, k4, k5, k6, k7, k8, k9, k10, k11, k12⟩ := HX4.out.fields
  obtain ⟨k13, k14, k15, k16⟩ := HX4.out.lists
  clear hb4 HX3 HC3 hn
  go_wp2_with fail
  trace_state
  go_ret
  exact ⟨rfl, HB4.out⟩
end Go.Proofs.YtpocjmlkhophoaaGreatDoor
