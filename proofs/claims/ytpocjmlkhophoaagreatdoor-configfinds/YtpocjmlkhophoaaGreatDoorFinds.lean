/- yardlaw6.ConfigFinds answers true; all older memory stands. -/
import Derived.Test.YtpocjmlkhophoaaGreatDoorPlb
import Derived.Test.YtpocjmlkhophoaaGreatDoorPli
import Derived.Test.YtpocjmlkhophoaaGreatDoorSizes
namespace Go.Proofs.YtpocjmlkhophoaaGreatDoor
open Go.RowKit Go.Extern.Stop Go.Stop Go.Extern

theorem wrap_less (m : Nat) (h : m ≤ 1000) : wrap64 ((m : Int) - 1) = (m : Int) - 1 := by
  unfold wrap64
  omega
/-- Below, and a box of a configuration with its lists. -/
structure CfgIn (w : World) (g : Nat) (c : Cfg) (sl po pt ct : Value) (wr : World) : Prop where
  below : Below w.heap.size w wr
  box : CfgBox wr g c sl po pt ct
  lists : ListsAt wr c sl po pt ct
theorem CfgIn.on {w : World} {g : Nat} {c : Cfg} {sl po pt ct : Value} {wr w' : World} (h : CfgIn w g c sl po pt ct wr) (hb : Below wr.heap.size wr w') : CfgIn w g c sl po pt ct w' := ⟨h.below.trans (hb.mono h.below.size), h.box.on hb, h.lists.on hb⟩
set_option maxRecDepth 100000 in
set_option maxHeartbeats 8000000 in
theorem finds_any (hfirst : FirstOK) (c : Cfg) (kind : Int) (sl po pt ct : Value) (w : World) (hg : Ready w) (hl : ListsAt w c sl po pt ct) : Calls Tryz.prog 8 #[cfgV c sl po pt ct, .int .i64 kind] w fun e w' => e = .returned (.bool true) ∧ Below w.heap.size w w' := by
  have HFI := Lib.hid hfirst
  have HG := Lib.hid hg
  have hb0 := below_new w (.cells #[.int .i64 c.own, .int .i64 c.master, .bool c.unsol, .int .i64 c.reply, .int .i64 c.silence, .int .i64 c.retries, .int .i64 c.offline, .int .i64 c.select, .int .i64 c.confirm, .int .i64 c.frag, .int .i64 c.r0, .int .i64 c.r1, .int .i64 c.r2, sl, po, pt, ct] 28)
  have HI0 : Hid (CfgIn w w.heap.size c sl po pt ct _) := Lib.hid ⟨hb0, cfgBox_new w c sl po pt ct, hl.on hb0⟩
  obtain ⟨a1, q1, rfl, _⟩ := hl.sl.form
  obtain ⟨a2, q2, rfl, _⟩ := hl.po.form
  obtain ⟨a3, q3, rfl, _⟩ := hl.pt.form
  obtain ⟨a4, q4, rfl, _⟩ := hl.ct.form
  clear hl hfirst hg hb0
  unfold cfgV
  go_enter Tryz.func8, Tryz.ntmps8
  go_wp2_with fail
  refine (HFI.out _ (HG.out.on HI0.out.below)).mono ?_
  rintro e w1 ⟨rfl, hb⟩
  have HI1 := Lib.hid (HI0.out.on hb)
  clear hb HI0
  obtain ⟨k0, k1, k2, k3, k4, k5, k6, k7, k8, k9, k10, k11, k12⟩ := HI1.out.box.fields
  obtain ⟨k13, k14, k15, k16⟩ := HI1.out.box.lists
  go_wp2_with fail
  refine (few_any c _ _ _ _ w1 HI1.out.lists).mono ?_
  rintro e w2 ⟨rfl, hb⟩
  have HI2 := Lib.hid (HI1.out.on hb)
  clear hb HI1 k0 k1 k2 k3 k4 k5 k6 k7 k8 k9 k10 k11 k12 k13 k14 k15 k16
  by_cases hf : FewC c
  case neg =>
    rw [decide_eq_false hf]
    go_wp2_with fail
    refine (HFI.out _ (HG.out.on HI2.out.below)).mono ?_
    rintro e w3 ⟨rfl, hb⟩
    have HI3 := Lib.hid (HI2.out.on hb)
    clear hb
    go_wp2
    go_ret
    exact ⟨rfl, HI3.out.below⟩
  rw [decide_eq_true hf]
  have HF := Lib.hid hf
  clear hf
  go_wp2
  go_loopg [5] c.points.length (fun k s5 wr => ∃ i : Nat, i ≤ c.points.length ∧ k = c.points.length - i ∧ s5 = .int .i64 (i : Int) ∧ Hid (CfgIn w w.heap.size c (.slice a1 c.slaves.length q1) (.slice a2 c.polls.length q2) (.slice a3 c.points.length q3) (.slice a4 c.ctls.length q4) wr))
  case atStart => exact ⟨0, Nat.zero_le _, rfl, rfl, HI2⟩
  case round =>
    obtain ⟨i, hi, rfl, rfl, HI⟩ := hrel
    by_cases hlt : i < c.points.length
    · obtain ⟨k0, k1, k2, k3, k4, k5, k6, k7, k8, k9, k10, k11, k12⟩ := HI.out.box.fields
      obtain ⟨k13, k14, k15, k16⟩ := HI.out.box.lists
      have hi0 : (0 : Int) ≤ (i : Int) := by omega
      have hi1 : (i : Int) < (c.points.length : Int) := by omega
      have HJ := Lib.hid (show i < 1000000 by have := HF.out.2.2.1; omega)
      have HD := Lib.hid (show c.points.getD i noPt = c.points[i] by simp [hlt])
      have hn := index_pos c i hlt
      have HFA := Lib.hid (find_at c i hlt)
      rw [HD.out] at HFA
      have HIX := Lib.hid (idx_any c (i : Int) (.slice a1 c.slaves.length q1) (.slice a2 c.polls.length q2) (.slice a3 c.points.length q3) (.slice a4 c.ctls.length q4) wr HI.out.lists HF.out)
      generalize indexN c (i : Int) = n at *
      unfold cfgV at HIX
      go_wp2_with fail
      refine HIX.out.mono ?_
      rintro e w3 ⟨rfl, hb⟩
      have HI3 := Lib.hid (HI.out.on hb)
      clear hb HI HIX k0 k1 k2 k3 k4 k5 k6 k7 k8 k9 k10 k11 k12 k13 k14 k15 k16
      obtain ⟨k0, k1, k2, k3, k4, k5, k6, k7, k8, k9, k10, k11, k12⟩ := HI3.out.box.fields
      obtain ⟨k13, k14, k15, k16⟩ := HI3.out.box.lists
      obtain ⟨b, off, rfl, p0, p1, p2, p3, p4, p5, p6, p7⟩ := row8_of HI3.out.lists.pt i hlt
      have HFI2 := Lib.hid (fun wz hz => find_any c c.points[i].kind n (.slice a1 c.slaves.length q1) (.slice a2 c.polls.length q2) (.slice (some ⟨b, off, none⟩) c.points.length q3) (.slice a4 c.ctls.length q4) wz hz HF.out)
      have BD := Lib.hid ((Below.refl w3.heap.size w3).drew)
      clear p1 p2 p3 p4 p5 p6 p7 HD
      have HPT : Hid (∀ wz, Below w3.heap.size w3 wz → wz.cell? ⟨b, off + i * 8, none⟩ = some (.int .i64 c.points[i].kind)) := Lib.hid (fun wz hz => (hz.cell (lt_cell p0)).trans p0)
      generalize c.points[i] = y at *
      generalize findN c y.kind n = R at *
      unfold cfgV at HFI2
      as_aux_lemma =>
        go_wp2
        go_region_held3 (fun w' => w'.cell? ⟨w.heap.size, 0, none⟩ = some (.int .i64 c.own) ∧ w'.cell? ⟨w.heap.size, 1, none⟩ = some (.int .i64 c.master) ∧ w'.cell? ⟨w.heap.size, 2, none⟩ = some (.bool c.unsol) ∧ w'.cell? ⟨w.heap.size, 3, none⟩ = some (.int .i64 c.reply) ∧ w'.cell? ⟨w.heap.size, 4, none⟩ = some (.int .i64 c.silence) ∧ w'.cell? ⟨w.heap.size, 5, none⟩ = some (.int .i64 c.retries) ∧ w'.cell? ⟨w.heap.size, 6, none⟩ = some (.int .i64 c.offline) ∧ w'.cell? ⟨w.heap.size, 7, none⟩ = some (.int .i64 c.select) ∧ w'.cell? ⟨w.heap.size, 8, none⟩ = some (.int .i64 c.confirm) ∧ w'.cell? ⟨w.heap.size, 9, none⟩ = some (.int .i64 c.frag) ∧ w'.cell? ⟨w.heap.size, 10, none⟩ = some (.int .i64 c.r0) ∧ w'.cell? ⟨w.heap.size, 11, none⟩ = some (.int .i64 c.r1) ∧ w'.cell? ⟨w.heap.size, 12, none⟩ = some (.int .i64 c.r2) ∧ w'.cell? ⟨w.heap.size, 13, none⟩ = some (.slice a1 c.slaves.length q1) ∧ w'.cell? ⟨w.heap.size, 14, none⟩ = some (.slice a2 c.polls.length q2) ∧ w'.cell? ⟨w.heap.size, 15, none⟩ = some (.slice (some ⟨b, off, none⟩) c.points.length q3) ∧ w'.cell? ⟨w.heap.size, 16, none⟩ = some (.slice a4 c.ctls.length q4) ∧ w'.cell? ⟨b, off + i * 8, none⟩ = some (.int .i64 y.kind))
          (first
            | exact ⟨k0, k1, k2, k3, k4, k5, k6, k7, k8, k9, k10, k11, k12, k13, k14, k15, k16, p0⟩
            | exact ⟨d0, d1, d2, d3, d4, d5, d6, d7, d8, d9, d10, d11, d12, d13, d14, d15, d16, dp⟩
            | go_keep)
          ((go_at_call 26; refine (HFI2.out _ (HI3.out.lists.on BD.out)).mono ?_; rintro e w4 ⟨rfl, hb4⟩; have HI4 := Lib.hid (HI3.out.on (BD.out.trans hb4)); have dp := HPT.out w4 (BD.out.trans hb4); obtain ⟨d0, d1, d2, d3, d4, d5, d6, d7, d8, d9, d10, d11, d12⟩ := HI4.out.box.fields; obtain ⟨d13, d14, d15, d16⟩ := HI4.out.box.lists; clear hb4; simp only []))
        have p0' := dp
        clear HI3 HFI2 HPT p0 k0 k1 k2 k3 k4 k5 k6 k7 k8 k9 k10 k11 k12 k13 k14 k15 k16 d0 d1 d2 d3 d4 d5 d6 d7 d8 d9 d10 d11 d12 d13 d14 d16
        as_aux_lemma =>
          have hn' : ¬ n < 0 := by omega
          by_cases h1 : 1 ≤ y.kind
          · by_cases h4 : y.kind ≤ 4
            · have HR := HFA.out h1 h4
              subst HR
              clear HFA
              go_wp2
              go_roundg (c.points.length - (i + 1))
              case measure => omega
              case rel => exact ⟨i + 1, by omega, rfl, next_i64 i HJ.out, HI4⟩
            · clear HFA
              obtain ⟨r1, r2⟩ := R
              go_wp2
              go_roundg (c.points.length - (i + 1))
              case measure => omega
              case rel => exact ⟨i + 1, by omega, rfl, next_i64 i HJ.out, HI4⟩
          · clear HFA
            obtain ⟨r1, r2⟩ := R
            go_wp2
            go_roundg (c.points.length - (i + 1))
            case measure => omega
            case rel => exact ⟨i + 1, by omega, rfl, next_i64 i HJ.out, HI4⟩
    · obtain ⟨k0, k1, k2, k3, k4, k5, k6, k7, k8, k9, k10, k11, k12⟩ := HI.out.box.fields
      obtain ⟨k13, k14, k15, k16⟩ := HI.out.box.lists
      as_aux_lemma =>
        have HC := Lib.hid (fun wz hz => count_any c kind (.slice a1 c.slaves.length q1) (.slice a2 c.polls.length q2) (.slice a3 c.points.length q3) (.slice a4 c.ctls.length q4) wz hz HF.out)
        have HFD := Lib.hid (fun x wz hz => find_any c kind x (.slice a1 c.slaves.length q1) (.slice a2 c.polls.length q2) (.slice a3 c.points.length q3) (.slice a4 c.ctls.length q4) wz hz HF.out)
        have HPL := Lib.hid (placesN_le c kind HF.out)
        have HLA := Lib.hid (find_last c kind)
        have HOU := Lib.hid (find_out c kind)
        generalize (placesN c kind).length = m at *
        unfold cfgV at HC HFD
        go_wp2_with fail
        refine (HC.out _ HI.out.lists).mono ?_
        rintro e w3 ⟨rfl, hb⟩
        have HI3 := Lib.hid (HI.out.on hb)
        clear hb HI HC k0 k1 k2 k3 k4 k5 k6 k7 k8 k9 k10 k11 k12 k13 k14 k15 k16
        obtain ⟨k0, k1, k2, k3, k4, k5, k6, k7, k8, k9, k10, k11, k12⟩ := HI3.out.box.fields
        obtain ⟨k13, k14, k15, k16⟩ := HI3.out.box.lists
        have hw := wrap_less m (by have := HPL.out; omega)
        go_wp2_with fail
        try rw [hw]
        refine (HFD.out ((m : Int) - 1) _ HI3.out.lists).mono ?_
        rintro e w4 ⟨rfl, hb⟩
        rw [HLA.out]
        have HI4 := Lib.hid (HI3.out.on hb)
        clear hb HI3 HLA hw k0 k1 k2 k3 k4 k5 k6 k7 k8 k9 k10 k11 k12 k13 k14 k15 k16
        obtain ⟨k0, k1, k2, k3, k4, k5, k6, k7, k8, k9, k10, k11, k12⟩ := HI4.out.box.fields
        obtain ⟨k13, k14, k15, k16⟩ := HI4.out.box.lists
        as_aux_lemma =>
          generalize (findN c kind ((m : Int) - 1)).1 = r1
          go_wp2_with fail
          refine (HFD.out (m : Int) _ HI4.out.lists).mono ?_
          rintro e w5 ⟨rfl, hb⟩
          rw [HOU.out]
          have HI5 := Lib.hid (HI4.out.on hb)
          clear hb HI4 HOU HFD k0 k1 k2 k3 k4 k5 k6 k7 k8 k9 k10 k11 k12 k13 k14 k15 k16
          generalize (findN c kind (m : Int)).1 = r2
          go_wp2_with fail
          refine (HFI.out _ (HG.out.on HI5.out.below)).mono ?_
          rintro e w6 ⟨rfl, hb⟩
          have HI6 := Lib.hid (HI5.out.on hb)
          clear hb
          have hm0 : (0 : Int) ≤ (m : Int) := by omega
          by_cases hm : (0 : Int) < (m : Int)
          · go_wp2
            go_ret
            exact ⟨rfl, HI6.out.below⟩
          · go_wp2
            go_ret
            exact ⟨rfl, HI6.out.below⟩
end Go.Proofs.YtpocjmlkhophoaaGreatDoor
