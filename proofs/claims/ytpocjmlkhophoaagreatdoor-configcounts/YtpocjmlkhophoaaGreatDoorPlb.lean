/- config.placesOf, Count, Find and Index: what each answers; all older memory stands. -/
import Derived.Test.YtpocjmlkhophoaaGreatDoorPla
namespace Go.Proofs.YtpocjmlkhophoaaGreatDoor
open Go.RowKit Go.Extern.Stop Go.Stop Go.Extern

theorem numsIs_lift {w w1 : World} {l : List Int} {e : Ending} {w' : World} (hb : Below w.heap.size w w1) (h : NumsIs w1 l e w') : NumsIs w l e w' := by
  obtain ⟨v, he, ho, hb'⟩ := h
  exact ⟨v, he, ownsRow_base ho hb.size, hb.trans (hb'.mono hb.size)⟩
set_option maxRecDepth 100000 in
set_option maxHeartbeats 2000000 in
theorem placesOf_any (c : Cfg) (kind : Int) (sl po pt ct : Value) (w : World) (hl : ListsAt w c sl po pt ct) (hf : FewC c) : Calls Tryz.prog 76 #[cfgV c sl po pt ct, .int .i64 kind] w (NumsIs w (placesN c kind)) := by
  have HB := Lib.hid (below_new w (.cells #[.int .i64 c.own, .int .i64 c.master, .bool c.unsol, .int .i64 c.reply, .int .i64 c.silence, .int .i64 c.retries, .int .i64 c.offline, .int .i64 c.select, .int .i64 c.confirm, .int .i64 c.frag, .int .i64 c.r0, .int .i64 c.r1, .int .i64 c.r2, sl, po, pt, ct] 28))
  have HX := Lib.hid (cfgBox_new w c sl po pt ct)
  have HL := Lib.hid (hl.on HB.out)
  have HF := Lib.hid hf
  obtain ⟨k13, k14, k15, k16⟩ := HX.out.lists
  obtain ⟨a3, q3, rfl, _⟩ := hl.pt.form
  obtain ⟨a4, q4, rfl, _⟩ := hl.ct.form
  clear hl hf HX
  unfold cfgV
  by_cases h15 : 1 ≤ kind ∧ kind ≤ 5
  · have HP : Hid (placesN c kind = plc (ptIs c.points (kindK kind)) c.points.length) := Lib.hid (by unfold placesN; rw [if_pos h15])
    rw [HP.out]
    have h5 : kind = 1 ∨ kind = 2 ∨ kind = 3 ∨ kind = 4 ∨ kind = 5 := by omega
    clear h15 HP
    rcases h5 with rfl | rfl | rfl | rfl | rfl
    all_goals
      go_enter Tryz.func76, Tryz.ntmps76
      go_wp2_with fail
      refine (pointsOf_any c.points _ _ _ HL.out.pt (by have := HF.out.2.2.1; omega)).mono ?_
      intro e w' h
      have HN := Lib.hid (numsIs_lift HB.out h)
      obtain ⟨v, rfl, ho, _⟩ := h
      obtain ⟨av, cv, rfl⟩ := own_slice ho
      clear ho
      go_wp2
      go_ret
      exact HN.out
  · by_cases h67 : kind = 6 ∨ kind = 7
    · have HP : Hid (placesN c kind = plc (ctlIs c.ctls kind) c.ctls.length) := Lib.hid (by unfold placesN; rw [if_neg h15, if_pos h67])
      rw [HP.out]
      clear h15 HP
      rcases h67 with rfl | rfl
      all_goals
        go_enter Tryz.func76, Tryz.ntmps76
        go_wp2_with fail
        refine (ctlsOf_any c.ctls _ _ _ HL.out.ct (by have := HF.out.2.2.2; omega)).mono ?_
        intro e w' h
        have HN := Lib.hid (numsIs_lift HB.out h)
        obtain ⟨v, rfl, ho, _⟩ := h
        obtain ⟨av, cv, rfl⟩ := own_slice ho
        clear ho
        go_wp2
        go_ret
        exact HN.out
    · have HP : Hid (placesN c kind = []) := Lib.hid (by unfold placesN; rw [if_neg h15, if_neg h67])
      rw [HP.out]
      have e1 : (kind == 1) = false := by simp; omega
      have e2 : (kind == 2) = false := by simp; omega
      have e3 : (kind == 3) = false := by simp; omega
      have e4 : (kind == 4) = false := by simp; omega
      have e5 : (kind == 5) = false := by simp; omega
      have e6 : (kind == 6) = false := by simp; omega
      have e7 : (kind == 7) = false := by simp; omega
      clear h15 h67 HP
      go_enter Tryz.func76, Tryz.ntmps76
      go_wp2
      go_ret
      exact ⟨_, rfl, World.ownsRow_nil _ _ _ _, HB.out⟩
set_option maxRecDepth 100000 in
set_option maxHeartbeats 2000000 in
/-- config.Count. -/
theorem count_any (c : Cfg) (kind : Int) (sl po pt ct : Value) (w : World) (hl : ListsAt w c sl po pt ct) (hf : FewC c) : Calls Tryz.prog 28 #[cfgV c sl po pt ct, .int .i64 kind] w fun e w' => e = .returned (.int .i64 ((placesN c kind).length : Int)) ∧ Below w.heap.size w w' := by
  have HB := Lib.hid (below_new w (.cells #[.int .i64 c.own, .int .i64 c.master, .bool c.unsol, .int .i64 c.reply, .int .i64 c.silence, .int .i64 c.retries, .int .i64 c.offline, .int .i64 c.select, .int .i64 c.confirm, .int .i64 c.frag, .int .i64 c.r0, .int .i64 c.r1, .int .i64 c.r2, sl, po, pt, ct] 28))
  have HX := Lib.hid (cfgBox_new w c sl po pt ct)
  have HL := Lib.hid (hl.on HB.out)
  obtain ⟨k0, k1, k2, k3, k4, k5, k6, k7, k8, k9, k10, k11, k12⟩ := HX.out.fields
  obtain ⟨k13, k14, k15, k16⟩ := HX.out.lists
  have HP := Lib.hid (placesOf_any c kind sl po pt ct _ HL.out hf)
  clear hl HX
  generalize placesN c kind = l at HP ⊢
  unfold cfgV at HP ⊢
  go_enter Tryz.func28, Tryz.ntmps28
  go_wp2_with fail
  refine HP.out.mono ?_
  rintro e w' ⟨v, rfl, ho, hb⟩
  have HB2 := Lib.hid (HB.out.trans (hb.mono HB.out.size))
  obtain ⟨av, cv, rfl⟩ := own_slice ho
  clear ho hb
  go_wp2
  go_ret
  exact ⟨rfl, HB2.out⟩
set_option maxRecDepth 100000 in
set_option maxHeartbeats 2000000 in
/-- config.Find. -/
theorem find_any (c : Cfg) (kind index : Int) (sl po pt ct : Value) (w : World) (hl : ListsAt w c sl po pt ct) (hf : FewC c) : Calls Tryz.prog 26 #[cfgV c sl po pt ct, .int .i64 kind, .int .i64 index] w fun e w' => e = .returned (.tuple #[.int .i64 (findN c kind index).1, .bool (findN c kind index).2]) ∧ Below w.heap.size w w' := by
  have HB := Lib.hid (below_new w (.cells #[.int .i64 c.own, .int .i64 c.master, .bool c.unsol, .int .i64 c.reply, .int .i64 c.silence, .int .i64 c.retries, .int .i64 c.offline, .int .i64 c.select, .int .i64 c.confirm, .int .i64 c.frag, .int .i64 c.r0, .int .i64 c.r1, .int .i64 c.r2, sl, po, pt, ct] 28))
  have HX := Lib.hid (cfgBox_new w c sl po pt ct)
  have HL := Lib.hid (hl.on HB.out)
  have HN : Hid (findN c kind index = if 0 ≤ index ∧ index < (placesN c kind).length then ((placesN c kind).getD index.toNat 0, true) else (0, false)) := Lib.hid rfl
  obtain ⟨k0, k1, k2, k3, k4, k5, k6, k7, k8, k9, k10, k11, k12⟩ := HX.out.fields
  obtain ⟨k13, k14, k15, k16⟩ := HX.out.lists
  clear hl HX
  generalize findN c kind index = r at *
  unfold cfgV
  go_enter Tryz.func26, Tryz.ntmps26
  go_wp2_with fail
  refine (placesOf_any c kind _ _ _ _ _ HL.out hf).mono ?_
  rintro e w' ⟨v, rfl, ho, hb⟩
  have HB2 := Lib.hid (HB.out.trans (hb.mono HB.out.size))
  have HO := Lib.hid (own_lies ho)
  obtain ⟨av, cv, rfl⟩ := own_slice ho
  clear ho hb k0 k1 k2 k3 k4 k5 k6 k7 k8 k9 k10 k11 k12 k13 k14 k15 k16 HL
  generalize placesN c kind = l at *
  by_cases h0 : index < 0
  · have HR := Lib.hid (show r = (0, false) by rw [HN.out, if_neg (by omega)])
    clear HN
    go_wp2
    go_ret2
    rw [HR.out]
    exact ⟨rfl, HB2.out⟩
  · have h0' : 0 ≤ index := by omega
    by_cases h1 : index < (l.length : Int)
    · obtain ⟨i, rfl⟩ : ∃ i : Nat, index = (i : Int) := ⟨index.toNat, by omega⟩
      have hi : i < l.length := by omega
      obtain ⟨b, off, rfl, hc⟩ := lies_cells HO.out (icells_get l i hi)
      have hcell := hc _ _ (icells_get l i hi)
      have HR := Lib.hid (show r = (l[i], true) by rw [HN.out, if_pos (by omega)]; simp [hi])
      clear HN hc h0
      generalize l[i] = y at *
      go_wp2
      go_ret2
      rw [HR.out]
      exact ⟨rfl, HB2.out⟩
    · have h1' : (l.length : Int) ≤ index := by omega
      have HR := Lib.hid (show r = (0, false) by rw [HN.out, if_neg (by omega)])
      clear HN h1
      go_wp2
      go_ret2
      rw [HR.out]
      exact ⟨rfl, HB2.out⟩
end Go.Proofs.YtpocjmlkhophoaaGreatDoor
