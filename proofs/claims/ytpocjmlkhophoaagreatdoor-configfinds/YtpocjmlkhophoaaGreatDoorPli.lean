/- config.Index and yardref6.Index: what they answer; all older memory stands. -/
import Derived.Test.YtpocjmlkhophoaaGreatDoorPla
namespace Go.Proofs.YtpocjmlkhophoaaGreatDoor
open Go.RowKit Go.Extern.Stop Go.Stop Go.Extern

theorem plc_congr {f g : Nat → Bool} : ∀ n, (∀ j, j < n → f j = g j) → plc f n = plc g n
  | 0, _ => rfl
  | n + 1, h => by
    rw [plc_succ, plc_succ, plc_congr n (fun j hj => h j (by omega)), h n (by omega)]
theorem lies_take {w : World} {ao : Option Addr} {n m cap : Nat} {l : List Pt} (h : LiesAt w (.slice ao n cap) m (ptCells l)) (i : Nat) (hi : i ≤ l.length) (hm : l.length ≤ m) : LiesAt w (.slice ao i cap) (l.take i).length (ptCells (l.take i)) := by
  obtain ⟨ao', cap', e, hn, hc⟩ := h
  simp only [Value.slice.injEq] at e
  obtain ⟨rfl, rfl, rfl⟩ := e
  have hlen : (l.take i).length = i := by rw [List.length_take]; omega
  refine ⟨ao, cap, by rw [hlen], by rw [hlen]; omega, fun j u hj => hc j u ?_⟩
  have : ptCells l = ptCells (l.take i) ++ ptCells (l.drop i) := by rw [← ptCells_append, List.take_append_drop]
  rw [this, List.getElem?_append_left (List.getElem?_eq_some_iff.1 hj).1]
  exact hj
theorem ptIs_take (l : List Pt) (k : Int) (i : Nat) : plc (ptIs (l.take i) k) i = plc (ptIs l k) i := plc_congr i fun j hj => by
  simp [ptIs, List.getD_eq_getElem?_getD, hj]
set_option maxRecDepth 100000 in
set_option maxHeartbeats 4000000 in
theorem idx_any (c : Cfg) (place : Int) (sl po pt ct : Value) (w : World) (hl : ListsAt w c sl po pt ct) (hf : FewC c) : Calls Tryz.prog 30 #[cfgV c sl po pt ct, .int .i64 place] w fun e w' => e = .returned (.int .i64 (indexN c place)) ∧ Below w.heap.size w w' := by
  have HB := Lib.hid (below_new w (.cells #[.int .i64 c.own, .int .i64 c.master, .bool c.unsol, .int .i64 c.reply, .int .i64 c.silence, .int .i64 c.retries, .int .i64 c.offline, .int .i64 c.select, .int .i64 c.confirm, .int .i64 c.frag, .int .i64 c.r0, .int .i64 c.r1, .int .i64 c.r2, sl, po, pt, ct] 28))
  have HX := Lib.hid (cfgBox_new w c sl po pt ct)
  have HL := Lib.hid (hl.on HB.out)
  have HF := Lib.hid hf
  obtain ⟨k13, k14, k15, k16⟩ := HX.out.lists
  obtain ⟨a3, q3, rfl, hq3⟩ := hl.pt.form
  clear hl hf HX k13 k14 k16
  unfold cfgV
  by_cases h0 : place < 0
  · have HR := Lib.hid (show indexN c place = -1 by unfold indexN; rw [if_neg (by omega)])
    rw [HR.out]
    clear HR
    go_enter Tryz.func30, Tryz.ntmps30
    go_wp2
    go_ret
    exact ⟨rfl, HB.out⟩
  · by_cases h1 : place < (c.points.length : Int)
    · obtain ⟨i, rfl⟩ : ∃ i : Nat, place = (i : Int) := ⟨place.toNat, by omega⟩
      have hi : i < c.points.length := by omega
      have HR := Lib.hid (show indexN c (i : Int) = ((plc (ptIs c.points (c.points.getD i noPt).kind) i).length : Int) by unfold indexN; rw [if_pos (by omega)]; rfl)
      have HT := Lib.hid (lies_take HL.out.pt i (by omega) (Nat.le_refl _))
      obtain ⟨b, off, rfl, p0, p1, p2, p3, p4, p5, p6, p7⟩ := row8_of HL.out.pt i hi
      have HD := Lib.hid (show c.points.getD i noPt = c.points[i] by simp [hi])
      rw [HR.out, HD.out]
      have HTL := Lib.hid (show (c.points.take i).length = i by rw [List.length_take]; omega)
      have HTK := Lib.hid (ptIs_take c.points c.points[i].kind i)
      have hi3 : (i : Int) ≤ (q3 : Int) := by omega
      have hi0 : (0 : Int) ≤ (i : Int) := by omega
      have HI := Lib.hid (show i ≤ 1000 by have := HF.out.2.2.1; omega)
      clear HR HD p1 p2 p3 p4 p5 p6 p7 hq3 h0
      generalize c.points[i] = y at *
      go_enter Tryz.func30, Tryz.ntmps30
      go_wp2
      generalize w.alloc (.cells #[.int .i64 c.own, .int .i64 c.master, .bool c.unsol, .int .i64 c.reply, .int .i64 c.silence, .int .i64 c.retries, .int .i64 c.offline, .int .i64 c.select, .int .i64 c.confirm, .int .i64 c.frag, .int .i64 c.r0, .int .i64 c.r1, .int .i64 c.r2, sl, po, .slice (some ⟨b, off, none⟩) c.points.length q3, ct] 28) = w0 at *
      go_still_tail 10, (by kernel_rfl)
      go_wp2_with fail
      refine (pointsOf_any (c.points.take i) _ _ _ (HT.out.on (below_drew w0 1)) (by rw [HTL.out]; exact HI.out)).mono ?_
      rw [HTL.out, HTK.out]
      rintro e w' ⟨v, rfl, ho, hb⟩
      have HB2 := Lib.hid ((HB.out.trans (((below_drew _ 1).trans hb).mono HB.out.size)))
      obtain ⟨av, cv, rfl⟩ := own_slice ho
      clear ho hb
      go_wp2
      go_ret
      exact ⟨rfl, HB2.out⟩
    · have h1' : (c.points.length : Int) ≤ place := by omega
      have HR := Lib.hid (show indexN c place = -1 by unfold indexN; rw [if_neg (by omega)])
      rw [HR.out]
      clear HR h1
      go_enter Tryz.func30, Tryz.ntmps30
      go_wp2
      go_ret
      exact ⟨rfl, HB.out⟩
set_option maxRecDepth 100000 in
set_option maxHeartbeats 4000000 in
theorem ridx_any (c : Cfg) (place : Int) (sl po pt ct : Value) (w : World) (hl : ListsAt w c sl po pt ct) (hf : FewC c) : Calls Tryz.prog 31 #[cfgV c sl po pt ct, .int .i64 place] w fun e w' => e = .returned (.int .i64 (indexN c place)) ∧ Below w.heap.size w w' := by
  have HB := Lib.hid (below_new w (.cells #[.int .i64 c.own, .int .i64 c.master, .bool c.unsol, .int .i64 c.reply, .int .i64 c.silence, .int .i64 c.retries, .int .i64 c.offline, .int .i64 c.select, .int .i64 c.confirm, .int .i64 c.frag, .int .i64 c.r0, .int .i64 c.r1, .int .i64 c.r2, sl, po, pt, ct] 28))
  have HX := Lib.hid (cfgBox_new w c sl po pt ct)
  have HL := Lib.hid (hl.on HB.out)
  have HF := Lib.hid hf
  obtain ⟨a3, q3, rfl, hq3⟩ := hl.pt.form
  obtain ⟨k13, k14, k15, k16⟩ := HX.out.lists
  clear hl hf k13 k14 k16
  unfold cfgV
  by_cases h0 : place < 0
  · have HR := Lib.hid (show indexN c place = -1 by unfold indexN; rw [if_neg (by omega)])
    rw [HR.out]
    clear HR
    go_enter Tryz.func31, Tryz.ntmps31
    go_wp2
    go_ret
    exact ⟨rfl, HB.out⟩
  · by_cases h1 : place < (c.points.length : Int)
    · obtain ⟨i, rfl⟩ : ∃ i : Nat, place = (i : Int) := ⟨place.toNat, by omega⟩
      have hi : i < c.points.length := by omega
      have HR := Lib.hid (show indexN c (i : Int) = ((plc (ptIs c.points (c.points.getD i noPt).kind) i).length : Int) by unfold indexN; rw [if_pos (by omega)]; rfl)
      obtain ⟨b, off, rfl, p0, p1, p2, p3, p4, p5, p6, p7⟩ := row8_of HL.out.pt i hi
      have HD := Lib.hid (show c.points.getD i noPt = c.points[i] by simp [hi])
      rw [HR.out, HD.out]
      have HI := Lib.hid (show i ≤ 1000 by have := HF.out.2.2.1; omega)
      have hi0 : (0 : Int) ≤ (i : Int) := by omega
      clear HR HD p1 p2 p3 p4 p5 p6 p7 hq3 h0
      generalize c.points[i] = y at *
      go_enter Tryz.func31, Tryz.ntmps31
      go_wp2
      generalize w.alloc (.cells #[.int .i64 c.own, .int .i64 c.master, .bool c.unsol, .int .i64 c.reply, .int .i64 c.silence, .int .i64 c.retries, .int .i64 c.offline, .int .i64 c.select, .int .i64 c.confirm, .int .i64 c.frag, .int .i64 c.r0, .int .i64 c.r1, .int .i64 c.r2, sl, po, .slice (some ⟨b, off, none⟩) c.points.length q3, ct] 28) = w0 at *
      go_loopg [5, 6] i (fun k s5 s6 wr => ∃ j : Nat, j ≤ i ∧ k = i - j ∧ s5 = .int .i64 ((plc (ptIs c.points y.kind) j).length : Int) ∧ s6 = .int .i64 (j : Int) ∧ Hid (Below w0.heap.size w0 wr))
      case atStart => exact ⟨0, Nat.zero_le _, rfl, rfl, rfl, Lib.hid (Below.refl _ _)⟩
      case round =>
        obtain ⟨j, hj, rfl, rfl, rfl, HW⟩ := hrel
        have k15' : wr.cell? ⟨w.heap.size, 15, none⟩ = some (.slice (some ⟨b, off, none⟩) c.points.length q3) := (HW.out.cell (lt_cell k15)).trans k15
        have p0' : wr.cell? ⟨b, off + i * 8, none⟩ = some (.int .i64 y.kind) := (HW.out.cell (lt_cell p0)).trans p0
        by_cases hlt : j < i
        · have hjn : j < c.points.length := by omega
          obtain ⟨b', off', e', r0, _⟩ := row8_of (HL.out.pt.on HW.out) j hjn
          simp only [Option.some.injEq, Addr.mk.injEq, and_true] at e'
          obtain ⟨rfl, rfl⟩ := e'
          have HK : Hid (ptIs c.points y.kind j = (c.points[j].kind == y.kind)) := Lib.hid (by simp [ptIs, hjn])
          have hj1 : (j : Int) < (c.points.length : Int) := by omega
          have hj0 : (0 : Int) ≤ (j : Int) := by omega
          have hjI : (j : Int) < (i : Int) := by omega
          have HPL := Lib.hid (plc_le (ptIs c.points y.kind) j)
          have HP := Lib.hid (plc_succ (ptIs c.points y.kind) j)
          generalize c.points[j] = z at *
          rcases Bool.eq_false_or_eq_true (z.kind == y.kind) with h2 | h2
          · have HN : Hid (Value.int .i64 (wrap64 (((plc (ptIs c.points y.kind) j).length : Int) + 1)) = .int .i64 ((plc (ptIs c.points y.kind) (j + 1)).length : Int)) := Lib.hid (by
              have := next_i64 (plc (ptIs c.points y.kind) j).length (by have := HPL.out; have := HI.out; omega)
              rw [this, HP.out, HK.out, h2, if_pos rfl, List.length_append]
              rfl)
            clear HK HP
            generalize ((plc (ptIs c.points y.kind) j).length : Int) = m at *
            go_wp2
            go_quiet (fail)
            go_wp2
            go_roundg (i - (j + 1))
            case measure => omega
            case rel => exact ⟨j + 1, by omega, rfl, HN.out, next_i64 j (by have := HI.out; omega), Lib.hid (HW.out.trans ((below_drewN (Below.refl _ _) _).mono HW.out.size))⟩
          · have HN : Hid (Value.int .i64 ((plc (ptIs c.points y.kind) j).length : Int) = .int .i64 ((plc (ptIs c.points y.kind) (j + 1)).length : Int)) := Lib.hid (by
              rw [HP.out, HK.out, h2]
              rfl)
            clear HK HP
            generalize ((plc (ptIs c.points y.kind) j).length : Int) = m at *
            go_wp2
            go_quiet (fail)
            go_wp2
            go_roundg (i - (j + 1))
            case measure => omega
            case rel => exact ⟨j + 1, by omega, rfl, HN.out, next_i64 j (by have := HI.out; omega), Lib.hid (HW.out.trans ((below_drewN (Below.refl _ _) _).mono HW.out.size))⟩
        · have hji : j = i := by omega
          subst hji
          go_wp2
          go_ret
          exact ⟨rfl, HB.out.trans (HW.out.mono HB.out.size)⟩
    · have h1' : (c.points.length : Int) ≤ place := by omega
      have HR := Lib.hid (show indexN c place = -1 by unfold indexN; rw [if_neg (by omega)])
      rw [HR.out]
      clear HR h1
      go_enter Tryz.func31, Tryz.ntmps31
      go_wp2
      go_ret
      exact ⟨rfl, HB.out⟩
end Go.Proofs.YtpocjmlkhophoaaGreatDoor
