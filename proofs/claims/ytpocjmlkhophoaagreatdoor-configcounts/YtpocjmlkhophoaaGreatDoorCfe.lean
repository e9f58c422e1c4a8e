/- yardref.Config: are two configurations alike, field by field, item by item; all older memory stands. -/
import Derived.Test.YtpocjmlkhophoaaGreatDoorCmp2
import Derived.Test.YtpocjmlkhophoaaGreatDoorSam
namespace Go.Proofs.YtpocjmlkhophoaaGreatDoor
open Go.RowKit Go.Extern.Stop Go.Stop Go.Extern

theorem neq_bool (a b : Bool) (w : World) : (binOp .neq 4 (.bool a) (.bool b)).run Tryz.prog w = .ok (.bool (a != b)) w := by cases a <;> cases b <;> kernel_rfl
theorem TwoIn.drew {w : World} {g h : Nat} {c d : Cfg} {sl po pt ct sl2 po2 pt2 ct2 : Value} {wr : World} (h' : TwoIn w g h c d sl po pt ct sl2 po2 pt2 ct2 wr) : TwoIn w g h c d sl po pt ct sl2 po2 pt2 ct2 (wr.drewN 1) := h'.on (below_drew wr 1)

set_option maxRecDepth 100000 in
set_option maxHeartbeats 4000000 in
theorem cfe_w15 (c d : Cfg) (sl po pt ct sl2 po2 pt2 ct2 : Value) (w : World) (hl : ListsAt w c sl po pt ct) (hl2 : ListsAt w d sl2 po2 pt2 ct2) (hf : SomeC c) (hf2 : SomeC d) (h0 : (c.own != d.own) = false) (h1 : (c.master != d.master) = false) (h2 : (c.unsol != d.unsol) = false) (h3 : (c.reply != d.reply) = false) (h4 : (c.silence != d.silence) = false) (h5 : (c.retries != d.retries) = false) (h6 : (c.offline != d.offline) = false) (h7 : (c.select != d.select) = false) (h8 : (c.confirm != d.confirm) = false) (h9 : (c.frag != d.frag) = false) (h10 : roomEq c d = true) (h11 : eqL intEq c.slaves d.slaves = true) (h12 : c.polls.length = d.polls.length) (h13 : c.points.length = d.points.length) (h14 : c.ctls.length = d.ctls.length) : Calls Tryz.prog 22 #[cfgV c sl po pt ct, cfgV d sl2 po2 pt2 ct2] w fun e w' => e = .returned (.bool (eqL pollEq c.polls d.polls && (eqL ptEq c.points d.points && eqL ctlEq c.ctls d.ctls))) ∧ Below w.heap.size w w' := by
  have HT0 := Lib.hid (two_start w c d sl po pt ct sl2 po2 pt2 ct2 hl hl2)
  obtain ⟨a1, q1, rfl, _⟩ := hl.sl.form
  obtain ⟨a2, q2, rfl, _⟩ := hl.po.form
  obtain ⟨a3, q3, rfl, _⟩ := hl.pt.form
  obtain ⟨a4, q4, rfl, _⟩ := hl.ct.form
  obtain ⟨b1, r1, rfl, _⟩ := hl2.sl.form
  obtain ⟨b2, r2, rfl, _⟩ := hl2.po.form
  obtain ⟨b3, r3, rfl, _⟩ := hl2.pt.form
  obtain ⟨b4, r4, rfl, _⟩ := hl2.ct.form
  have hrq : ∀ w, (binOp .neq 22 (.agg #[.int .i64 c.r0, .int .i64 c.r1, .int .i64 c.r2]) (.agg #[.int .i64 d.r0, .int .i64 d.r1, .int .i64 d.r2])).run Tryz.prog w = .ok (.bool false) w := fun w => (neq_room c.r0 c.r1 c.r2 d.r0 d.r1 d.r2 w).trans (congrArg (fun b => Result.ok (Value.bool (!b)) w) h10)
  have HF := Lib.hid (And.intro hf hf2)
  clear hl hl2 hf hf2 h10
  have H11 := Lib.hid h11
  clear h11
  have hub : ∀ w, (binOp .neq 4 (.bool c.unsol) (.bool d.unsol)).run Tryz.prog w = .ok (.bool false) w := fun w => (neq_bool c.unsol d.unsol w).trans (congrArg (fun b => Result.ok (Value.bool b) w) h2)
  clear h2
  have g12 : ((c.polls.length : Int) != (d.polls.length : Int)) = false := by simp; omega
  have g13 : ((c.points.length : Int) != (d.points.length : Int)) = false := by simp; omega
  have g14 : ((c.ctls.length : Int) != (d.ctls.length : Int)) = false := by simp; omega
  have HLE := Lib.hid (And.intro h12 (And.intro h13 h14))
  clear h12 h13 h14
  unfold cfgV
  go_enter Tryz.func22, Tryz.ntmps22
  go_wp2_with (rename_i K hK; have HK := Lib.hid hK; clear hK)
  refine HK.out _ _ ?_
  clear HK
  generalize (w.alloc (.cells #[.int .i64 c.own, .int .i64 c.master, .bool c.unsol, .int .i64 c.reply, .int .i64 c.silence, .int .i64 c.retries, .int .i64 c.offline, .int .i64 c.select, .int .i64 c.confirm, .int .i64 c.frag, .int .i64 c.r0, .int .i64 c.r1, .int .i64 c.r2, (.slice a1 c.slaves.length q1), (.slice a2 c.polls.length q2), (.slice a3 c.points.length q3), (.slice a4 c.ctls.length q4)] 28)).alloc (.cells #[.int .i64 d.own, .int .i64 d.master, .bool d.unsol, .int .i64 d.reply, .int .i64 d.silence, .int .i64 d.retries, .int .i64 d.offline, .int .i64 d.select, .int .i64 d.confirm, .int .i64 d.frag, .int .i64 d.r0, .int .i64 d.r1, .int .i64 d.r2, (.slice b1 d.slaves.length r1), (.slice b2 d.polls.length r2), (.slice b3 d.points.length r3), (.slice b4 d.ctls.length r4)] 28) = w0 at *
  generalize Value.agg #[.int .i64 c.own, .int .i64 c.master, .bool c.unsol, .int .i64 c.reply, .int .i64 c.silence, .int .i64 c.retries, .int .i64 c.offline, .int .i64 c.select, .int .i64 c.confirm, .int .i64 c.frag, .int .i64 c.r0, .int .i64 c.r1, .int .i64 c.r2, (.slice a1 c.slaves.length q1), (.slice a2 c.polls.length q2), (.slice a3 c.points.length q3), (.slice a4 c.ctls.length q4)] = X1
  generalize Value.agg #[.int .i64 d.own, .int .i64 d.master, .bool d.unsol, .int .i64 d.reply, .int .i64 d.silence, .int .i64 d.retries, .int .i64 d.offline, .int .i64 d.select, .int .i64 d.confirm, .int .i64 d.frag, .int .i64 d.r0, .int .i64 d.r1, .int .i64 d.r2, (.slice b1 d.slaves.length r1), (.slice b2 d.polls.length r2), (.slice b3 d.points.length r3), (.slice b4 d.ctls.length r4)] = X2
  obtain ⟨k0, k1, k2, k3, k4, k5, k6, k7, k8, k9, k10, k11, k12⟩ := HT0.out.b1.fields
  obtain ⟨k13, k14, k15, k16⟩ := HT0.out.b1.lists
  obtain ⟨m0, m1, m2, m3, m4, m5, m6, m7, m8, m9, m10, m11, m12⟩ := HT0.out.b2.fields
  obtain ⟨m13, m14, m15, m16⟩ := HT0.out.b2.lists
  go_wp2_with fail
  refine (ints_same c.slaves d.slaves _ _ _ HT0.out.l1.sl HT0.out.l2.sl HF.out.1.1 HF.out.2.1).mono ?_
  rintro e w1 ⟨rfl, hb⟩
  have HT1 := Lib.hid (HT0.out.on hb)
  rw [H11.out]
  clear hb HT0 k0 k1 k2 k3 k4 k5 k6 k7 k8 k9 k10 k11 k12 k13 k14 k15 k16 m0 m1 m2 m3 m4 m5 m6 m7 m8 m9 m10 m11 m12 m13 m14 m15 m16
  obtain ⟨k13, k14, k15, k16⟩ := HT1.out.b1.lists
  obtain ⟨m13, m14, m15, m16⟩ := HT1.out.b2.lists

  go_wp2
  clear k13 k14 k15 k16 m13 m14 m15 m16 g12 g13 g14
  have HTL := HT1
  clear HT1
  go_loopg [5] c.polls.length (fun kk sx wr => ∃ i : Nat, i ≤ c.polls.length ∧ kk = c.polls.length - i ∧ sx = .int .i64 (i : Int) ∧ Hid (EqTo pollEq c.polls d.polls i ∧ TwoIn w w.heap.size (w.heap.size + 1) c d (.slice a1 c.slaves.length q1) (.slice a2 c.polls.length q2) (.slice a3 c.points.length q3) (.slice a4 c.ctls.length q4) (.slice b1 d.slaves.length r1) (.slice b2 d.polls.length r2) (.slice b3 d.points.length r3) (.slice b4 d.ctls.length r4) wr))
  case atStart => exact ⟨0, Nat.zero_le _, rfl, rfl, Lib.hid ⟨eqTo_zero _ _ _, HTL.out⟩⟩
  case round =>
    obtain ⟨i, hi, rfl, rfl, HI⟩ := hrel
    have HT2 := Lib.hid HI.out.2
    have HEQ := Lib.hid HI.out.1
    clear HI
    obtain ⟨k13, k14, k15, k16⟩ := HT2.out.b1.lists
    obtain ⟨m13, m14, m15, m16⟩ := HT2.out.b2.lists
    by_cases hlt : i < c.polls.length
    · have hlt2 : i < d.polls.length := by have := HLE.out; omega
      have hi0 : (0 : Int) ≤ (i : Int) := by omega
      have hi1 : (i : Int) < (c.polls.length : Int) := by omega
      have hi2 : (i : Int) < (d.polls.length : Int) := by omega
      have HJ := Lib.hid (show i < 1000000 by have := HF.out.1; unfold SomeC at this; omega)
      obtain ⟨bb, off, rfl, p0, p1, p2, p3, p4⟩ := row5_of HT2.out.l1.po i hlt
      obtain ⟨bb2, off2, rfl, s0, s1, s2, s3, s4⟩ := row5_of HT2.out.l2.po i hlt2
      have HN : Hid (pollEq c.polls[i] d.polls[i] = true → EqTo pollEq c.polls d.polls (i + 1)) := Lib.hid (HEQ.out.next hlt hlt2)
      have HE : Hid (pollEq c.polls[i] d.polls[i] = false → eqL pollEq c.polls d.polls = false) := Lib.hid (eqL_ne pollEq c.polls d.polls i hlt hlt2)
      generalize c.polls[i] = y at *
      generalize d.polls[i] = z at *
      go_wp2
      go_still_tail 10, (by kernel_rfl)
      go_wp2_with fail
      refine (polls_same0 y z _).mono ?_
      rintro e w3 ⟨rfl, hb⟩
      have HT3 := Lib.hid (HT2.out.drew.on hb)
      clear hb HT2 p0 p1 p2 p3 p4 s0 s1 s2 s3 s4 k13 k14 k15 k16 m13 m14 m15 m16
      rcases Bool.eq_false_or_eq_true (pollEq y z) with h0 | h0
      · have HN2 := Lib.hid (HN.out h0)
        rw [h0]
        clear HN HE h0
        go_wp2
        go_roundg (c.polls.length - (i + 1))
        case measure => omega
        case rel => exact ⟨i + 1, by omega, rfl, next_i64' i HJ.out, Lib.hid ⟨HN2.out, HT3.out⟩⟩
      · have HE2 := Lib.hid (HE.out h0)
        rw [h0]
        clear HN HE h0
        have HRR := Lib.hid (show (eqL pollEq c.polls d.polls && (eqL ptEq c.points d.points && eqL ctlEq c.ctls d.ctls)) = false by rw [HE2.out]; simp)
        go_wp2
        go_ret
        rw [HRR.out]
        exact ⟨rfl, HT3.out.below⟩
    · have HEND := Lib.hid (HEQ.out.all hlt HLE.out.1)
      have HTL := Lib.hid HT2.out
      clear HEQ HT2
      have HEND1 := HEND
      clear HEND k13 k14 k15 k16 m13 m14 m15 m16
      obtain ⟨k13, k14, k15, k16⟩ := HTL.out.b1.lists
      obtain ⟨m13, m14, m15, m16⟩ := HTL.out.b2.lists
      go_wp2
      clear k13 k14 k15 k16 m13 m14 m15 m16
      go_loopg [6] c.points.length (fun kk sx wr => ∃ i : Nat, i ≤ c.points.length ∧ kk = c.points.length - i ∧ sx = .int .i64 (i : Int) ∧ Hid (EqTo ptEq c.points d.points i ∧ TwoIn w w.heap.size (w.heap.size + 1) c d (.slice a1 c.slaves.length q1) (.slice a2 c.polls.length q2) (.slice a3 c.points.length q3) (.slice a4 c.ctls.length q4) (.slice b1 d.slaves.length r1) (.slice b2 d.polls.length r2) (.slice b3 d.points.length r3) (.slice b4 d.ctls.length r4) wr))
      case atStart => exact ⟨0, Nat.zero_le _, rfl, rfl, Lib.hid ⟨eqTo_zero _ _ _, HTL.out⟩⟩
      case round =>
        obtain ⟨i, hi, rfl, rfl, HI⟩ := hrel
        have HT2 := Lib.hid HI.out.2
        have HEQ := Lib.hid HI.out.1
        clear HI
        obtain ⟨k13, k14, k15, k16⟩ := HT2.out.b1.lists
        obtain ⟨m13, m14, m15, m16⟩ := HT2.out.b2.lists
        by_cases hlt : i < c.points.length
        · have hlt2 : i < d.points.length := by have := HLE.out; omega
          have hi0 : (0 : Int) ≤ (i : Int) := by omega
          have hi1 : (i : Int) < (c.points.length : Int) := by omega
          have hi2 : (i : Int) < (d.points.length : Int) := by omega
          have HJ := Lib.hid (show i < 1000000 by have := HF.out.1; unfold SomeC at this; omega)
          obtain ⟨bb, off, rfl, p0, p1, p2, p3, p4, p5, p6, p7⟩ := row8_of HT2.out.l1.pt i hlt
          obtain ⟨bb2, off2, rfl, s0, s1, s2, s3, s4, s5, s6, s7⟩ := row8_of HT2.out.l2.pt i hlt2
          have HN : Hid (ptEq c.points[i] d.points[i] = true → EqTo ptEq c.points d.points (i + 1)) := Lib.hid (HEQ.out.next hlt hlt2)
          have HE : Hid (ptEq c.points[i] d.points[i] = false → eqL ptEq c.points d.points = false) := Lib.hid (eqL_ne ptEq c.points d.points i hlt hlt2)
          generalize c.points[i] = y at *
          generalize d.points[i] = z at *
          go_wp2
          go_still_tail 10, (by kernel_rfl)
          go_wp2_with fail
          refine (points_same0 y z _).mono ?_
          rintro e w3 ⟨rfl, hb⟩
          have HT3 := Lib.hid (HT2.out.drew.on hb)
          clear hb HT2 p0 p1 p2 p3 p4 p5 p6 p7 s0 s1 s2 s3 s4 s5 s6 s7 k13 k14 k15 k16 m13 m14 m15 m16
          rcases Bool.eq_false_or_eq_true (ptEq y z) with h0 | h0
          · have HN2 := Lib.hid (HN.out h0)
            rw [h0]
            clear HN HE h0
            go_wp2
            go_roundg (c.points.length - (i + 1))
            case measure => omega
            case rel => exact ⟨i + 1, by omega, rfl, next_i64' i HJ.out, Lib.hid ⟨HN2.out, HT3.out⟩⟩
          · have HE2 := Lib.hid (HE.out h0)
            rw [h0]
            clear HN HE h0
            have HRR := Lib.hid (show (eqL pollEq c.polls d.polls && (eqL ptEq c.points d.points && eqL ctlEq c.ctls d.ctls)) = false by rw [HE2.out]; simp)
            go_wp2
            go_ret
            rw [HRR.out]
            exact ⟨rfl, HT3.out.below⟩
        · have HEND := Lib.hid (HEQ.out.all hlt HLE.out.2.1)
          have HTL := Lib.hid HT2.out
          clear HEQ HT2
          have HEND2 := HEND
          clear HEND k13 k14 k15 k16 m13 m14 m15 m16
          obtain ⟨k13, k14, k15, k16⟩ := HTL.out.b1.lists
          obtain ⟨m13, m14, m15, m16⟩ := HTL.out.b2.lists
          go_wp2
          clear k13 k14 k15 k16 m13 m14 m15 m16
          go_loopg [7] c.ctls.length (fun kk sx wr => ∃ i : Nat, i ≤ c.ctls.length ∧ kk = c.ctls.length - i ∧ sx = .int .i64 (i : Int) ∧ Hid (EqTo ctlEq c.ctls d.ctls i ∧ TwoIn w w.heap.size (w.heap.size + 1) c d (.slice a1 c.slaves.length q1) (.slice a2 c.polls.length q2) (.slice a3 c.points.length q3) (.slice a4 c.ctls.length q4) (.slice b1 d.slaves.length r1) (.slice b2 d.polls.length r2) (.slice b3 d.points.length r3) (.slice b4 d.ctls.length r4) wr))
          case atStart => exact ⟨0, Nat.zero_le _, rfl, rfl, Lib.hid ⟨eqTo_zero _ _ _, HTL.out⟩⟩
          case round =>
            obtain ⟨i, hi, rfl, rfl, HI⟩ := hrel
            have HT2 := Lib.hid HI.out.2
            have HEQ := Lib.hid HI.out.1
            clear HI
            obtain ⟨k13, k14, k15, k16⟩ := HT2.out.b1.lists
            obtain ⟨m13, m14, m15, m16⟩ := HT2.out.b2.lists
            by_cases hlt : i < c.ctls.length
            · have hlt2 : i < d.ctls.length := by have := HLE.out; omega
              have hi0 : (0 : Int) ≤ (i : Int) := by omega
              have hi1 : (i : Int) < (c.ctls.length : Int) := by omega
              have hi2 : (i : Int) < (d.ctls.length : Int) := by omega
              have HJ := Lib.hid (show i < 1000000 by have := HF.out.1; unfold SomeC at this; omega)
              obtain ⟨bb, off, rfl, p0, p1, p2⟩ := row3_of HT2.out.l1.ct i hlt
              obtain ⟨bb2, off2, rfl, s0, s1, s2⟩ := row3_of HT2.out.l2.ct i hlt2
              have HN : Hid (ctlEq c.ctls[i] d.ctls[i] = true → EqTo ctlEq c.ctls d.ctls (i + 1)) := Lib.hid (HEQ.out.next hlt hlt2)
              have HE : Hid (ctlEq c.ctls[i] d.ctls[i] = false → eqL ctlEq c.ctls d.ctls = false) := Lib.hid (eqL_ne ctlEq c.ctls d.ctls i hlt hlt2)
              generalize c.ctls[i] = y at *
              generalize d.ctls[i] = z at *
              go_wp2
              go_region_held3 (fun w' => w'.cell? ⟨w.heap.size, 16, none⟩ = some (.slice (some ⟨bb, off, none⟩) c.ctls.length q4) ∧ w'.cell? ⟨w.heap.size + 1, 16, none⟩ = some (.slice (some ⟨bb2, off2, none⟩) d.ctls.length r4) ∧ w'.cell? ⟨bb, off + i * 3, none⟩ = some (.int .i64 y.kind) ∧ w'.cell? ⟨bb, off + i * 3 + 1, none⟩ = some (.int .i64 y.slave) ∧ w'.cell? ⟨bb, off + i * 3 + 2, none⟩ = some (.int .i64 y.reg) ∧ w'.cell? ⟨bb2, off2 + i * 3, none⟩ = some (.int .i64 z.kind) ∧ w'.cell? ⟨bb2, off2 + i * 3 + 1, none⟩ = some (.int .i64 z.slave) ∧ w'.cell? ⟨bb2, off2 + i * 3 + 2, none⟩ = some (.int .i64 z.reg))
                (first | exact ⟨k16, m16, p0, p1, p2, s0, s1, s2⟩ | go_keep)
                (fail)
              all_goals
                have HBZ : Hid (∀ o1 o2 : Obj, Below wr.heap.size wr (((wr.alloc o1).alloc o2).drew)) := Lib.hid (fun o1 o2 => (((below_new wr o1).trans ((below_new (wr.alloc o1) o2).mono (below_new wr o1).size))).drew)
                clear k13 k14 k15 k16 m13 m14 m15 m16 p0 p1 p2 s0 s1 s2
                rcases Bool.eq_false_or_eq_true (y.kind != z.kind) with g0 | g0
                · have HRR := Lib.hid (show (eqL pollEq c.polls d.polls && (eqL ptEq c.points d.points && eqL ctlEq c.ctls d.ctls)) = false by rw [HE.out (by simp only [ctlEq]; simp at g0; simp [g0])]; simp)
                  go_wp2
                  go_ret
                  rw [HRR.out]
                  exact ⟨rfl, (HT2.out.on (HBZ.out _ _)).below⟩
                · rcases Bool.eq_false_or_eq_true (y.slave != z.slave) with g1 | g1
                  · have HRR := Lib.hid (show (eqL pollEq c.polls d.polls && (eqL ptEq c.points d.points && eqL ctlEq c.ctls d.ctls)) = false by rw [HE.out (by simp only [ctlEq]; simp at g1; simp [g1])]; simp)
                    go_wp2
                    go_ret
                    rw [HRR.out]
                    exact ⟨rfl, (HT2.out.on (HBZ.out _ _)).below⟩
                  · rcases Bool.eq_false_or_eq_true (y.reg != z.reg) with g2 | g2
                    · have HRR := Lib.hid (show (eqL pollEq c.polls d.polls && (eqL ptEq c.points d.points && eqL ctlEq c.ctls d.ctls)) = false by rw [HE.out (by simp only [ctlEq]; simp at g2; simp [g2])]; simp)
                      go_wp2
                      go_ret
                      rw [HRR.out]
                      exact ⟨rfl, (HT2.out.on (HBZ.out _ _)).below⟩
                    · have HN2 := Lib.hid (HN.out (by simp only [ctlEq]; simp at g0 g1 g2; simp [g0, g1, g2]))
                      go_wp2
                      go_roundg (c.ctls.length - (i + 1))
                      case measure => omega
                      case rel => exact ⟨i + 1, by omega, rfl, next_i64' i HJ.out, Lib.hid ⟨HN2.out, HT2.out.on (HBZ.out _ _)⟩⟩
            · have HEND := Lib.hid (HEQ.out.all hlt HLE.out.2.2)
              have HRR := Lib.hid (show (eqL pollEq c.polls d.polls && (eqL ptEq c.points d.points && eqL ctlEq c.ctls d.ctls)) = true by rw [HEND1.out, HEND2.out, HEND.out]; rfl)
              go_wp2
              go_ret
              rw [HRR.out]
              exact ⟨rfl, HT2.out.below⟩
end Go.Proofs.YtpocjmlkhophoaaGreatDoor
