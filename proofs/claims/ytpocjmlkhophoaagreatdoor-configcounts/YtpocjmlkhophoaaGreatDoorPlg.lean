/- config.Index and yardref6.Index: what they answer; all older memory stands. -/
import Derived.Test.YtpocjmlkhophoaaGreatDoorPla
namespace Go.Proofs.YtpocjmlkhophoaaGreatDoor
open Go.RowKit Go.Extern.Stop Go.Stop Go.Extern

theorem plc_congr {f g : Nat → Bool} : ∀ n, (∀ j, j < n → f j = g j) → plc f n = plc g n
  | 0, _ => rfl
  | n + 1, h => by
    rw [plc_succ, plc_succ, plc_congr n (fun j hj => h j (by omega)), h n (by omega)]
theorem lies_take {w : World} {ao : Option Addr} {n m cap : Nat} {l : List Pt} (h : LiesAt w (.slice ao n cap) m (ptCells l)) (i : Nat) (hi : i ≤ l.length) (hm : l.length ≤ m) : LiesAt w (.slice ao i cap) (l.take i).length (ptCells (l.take i)) := by
  obtain ⟨ao', cap', e, hn, hc⟩ := h
  simp only [Value.slice.injEq] at e
  obtain ⟨rfl, rfl, rfl⟩ := e
  have hlen : (l.take i).length = i := by rw [List.length_take]; omega
  refine ⟨ao, cap, by rw [hlen], by rw [hlen]; omega, fun j u hj => hc j u ?_⟩
  have : ptCells l = ptCells (l.take i) ++ ptCells (l.drop i) := by rw [← ptCells_append, List.take_append_drop]
  rw [this, List.getElem?_append_left (List.getElem?_eq_some_iff.1 hj).1]
  exact hj
theorem ptIs_take (l : List Pt) (k : Int) (i : Nat) : plc (ptIs (l.take i) k) i = plc (ptIs l k) i := plc_congr i fun j hj => by
  simp [ptIs, List.getD_eq_getElem?_getD, hj]
set_option maxRecDepth 100000 in
set_option maxHeartbeats 4000000 in
theorem idx_any (c : Cfg) (place : Int) (sl po pt ct : Value) (w : World) (hl : ListsAt w c sl po pt ct) (hf : FewC c) : Calls Tryz.prog 30 #[cfgV c sl po pt ct, .int .i64 place] w fun e w' => e = .returned (.int .i64 (indexN c place)) ∧ Below w.heap.size w w' := by
  have HB := Lib.hid (below_new w (.cells #[.int .i64 c.own, .int .i64 c.master, .bool c.unsol, .int .i64 c.reply, .int .i64 c.silence, .int .i64 c.retries, .int .i64 c.offline, .int .i64 c.select, .int .i64 c.confirm, .int .i64 c.frag, .int .i64 c.r0, .int .i64 c.r1, .int .i64 c.r2, sl, po, pt, ct] 28))
  have HX := Lib.hid (cfgBox_new w c sl po pt ct)
  have HL := Lib.hid (hl.on HB.out)
  have HF := Lib.hid hf
  obtain ⟨k13, k14, k15, k16⟩ := HX.out.lists
  obtain ⟨a3, q3, rfl, hq3⟩ := hl.pt.form
  clear hl hf HX k13 k14 k16
  unfold cfgV
  by_cases h0 : place < 0
  · have HR := Lib.hid (show indexN c place = -1 by unfold indexN; rw [if_neg (by omega)])
    rw [HR.out]
    clear HR
    go_enter Tryz.func30, Tryz.ntmps30
    go_wp2
    go_ret
    exact ⟨rfl, HB.out⟩
  · by_cases h1 : place < (c.points.length : Int)
    · obtain ⟨i, rfl⟩ : ∃ i : Nat, place = (i : Int) := ⟨place.toNat, by omega⟩
      have hi : i < c.points.length := by omega
      have HR := Lib.hid (show indexN c (i : Int) = ((plc (ptIs c.points (c.points.getD i noPt).kind) i).length : Int) by unfold indexN; rw [if_pos (by omega)]; rfl)
      have HT := Lib.hid (lies_take HL.out.pt i (by omega) (Nat.le_refl _))
      obtain ⟨b, off, rfl, p0, p1, p2, p3, p4, p5, p6, p7⟩ := row8_of HL.out.pt i hi
      have HD := Lib.hid (show c.points.getD i noPt = c.points[i] by simp [hi])
      rw [HR.out, HD.out]
      have HTL := Lib.hid (show (c.points.take i).length = i by rw [List.length_take]; omega)
      have HTK := Lib.hid (ptIs_take c.points c.points[i].kind i)
      have hi3 : (i : Int) ≤ (q3 : Int) := by omega
      have hi0 : (0 : Int) ≤ (i : Int) := by omega
      have HI := Lib.hid (show i ≤ 1000 by have := HF.out.2.2.1; omega)
      clear HR HD p1 p2 p3 p4 p5 p6 p7 hq3 h0
      generalize c.points[i] = y at *
      go_enter Tryz.func30, Tryz.ntmps30
      go_wp2
      generalize w.alloc (.cells #[.int .i64 c.own, .int .i64 c.master, .bool c.unsol, .int .i64 c.reply, .int .i64 c.silence, .int .i64 c.retries, .int .i64 c.offline, .int .i64 c.select, .int .i64 c.confirm, .int .i64 c.frag, .int .i64 c.r0, .int .i64 c.r1, .int .i64 c.r2, sl, po, .slice (some ⟨b, off, none⟩) c.points.length q3, ct] 28) = w0 at *
      go_still_tail 10, (by kernel_rfl)
      go_wp2_with fail
      refine (pointsOf_any (c.points.take i) _ _ _ (HT.out.on (below_drew w0 1)) (by rw [HTL.out]; exact HI.out)).mono ?_
      rw [HTL.out, HTK.out]
      rintro e w' ⟨v, rfl, ho, hb⟩
      have HB2 := Lib.hid ((HB.out.trans (((below_drew _ 1).trans hb).mono HB.out.size)))
      obtain ⟨av, cv, rfl⟩ := own_slice ho
      clear ho hb
      go_wp2
      go_ret
      exact ⟨rfl, HB2.out⟩
    · have h1' : (c.points.length : Int) ≤ place := by omega
      have HR := Lib.hid (show indexN c place = -1 by unfold indexN; rw [if_neg (by omega)])
      rw [HR.out]
      clear HR h1
      go_enter Tryz.func30, Tryz.ntmps30
      go_wp2
      go_ret
      exact ⟨rfl, HB.out⟩
set_option maxRecDepth 100000 in
set_option maxHeartbeats 4000000 in
theorem ridx_any (c : Cfg) (place : Int) (sl po pt ct : Value) (w : World) (hl : ListsAt w c sl po pt ct) (hf : FewC c) : Calls Tryz.prog 31 #[cfgV c sl po pt ct, .int .i64 place] w fun e w' => e = .returned (.int .i64 (indexN c place)) ∧ Below w.heap.size w w' := by
  have HB := Lib.hid (below_new w (.cells #[.int .i64 c.own, .int .i64 c.master, .bool c.unsol, .int .i64 c.reply, .int .i64 c.silence, .int .i64 c.retries, .int .i64 c.offline, .int .i64 c.select, .int .i64 c.confirm, .int .i64 c.frag, .int .i64 c.r0, .int .i64 c.r1, .int .i64 c.r2, sl, po, pt, ct] 28))
  have HX := Lib.hid (cfgBox_new w c sl po pt ct)
  have HL := Lib.hid (hl.on HB.out)
  have HF := Lib.hid hf
  obtain ⟨a3, q3, rfl, hq3⟩ := hl.pt.form
  obtain ⟨k13, k14, k15, k16⟩ := HX.out.lists
  clear hl hf k13 k14 k16
  unfold cfgV
  by_cases h0 : place < 0
  · have HR := Lib.hid (show indexN c place = -1 by unfold indexN; rw [if_neg (by omega)])
    rw [HR.out]
    clear HR
    go_enter Tryz.func31, Tryz.ntmps31
    go_wp2
    go_ret
    exact ⟨rfl, HB.out⟩
  · by_cases h1 : place < (c.points.length : Int)
    · obtain ⟨i, rfl⟩ : ∃ i : Nat, place = (i : Int) := ⟨place.toNat, by omega⟩
      have hi : i < c.points.length := by omega
      have HR := Lib.hid (show indexN c (i : Int) = ((plc (ptIs c.points (c.points.getD i noPt).kind) i).length : Int) by unfold indexN; rw [if_pos (by omega)]; rfl)
      obtain ⟨b, off, rfl, p0, p1, p2, p3, p4, p5, p6, p7⟩ := row8_of HL.out.pt i hi
      have HD := Lib.hid (show c.points.getD i noPt = c.points[i] by simp [hi])
      rw [HR.out, HD.out]
      have HI := Lib.hid (show i ≤ 1000 by have := HF.out.2.2.1; omega)
      have hi0 : (0 : Int) ≤ (i : Int) := by omega
      clear HR HD p1 p2 p3 p4 p5 p6 p7 hq3 h0
      generalize c.points[i] = y at *
      go_enter Tryz.func31, Tryz.ntmps31
      go_wp2
      generalize w.alloc (.cells #[.int .i64 c.own, .int .i64 c.master, .bool c.unsol, .int .i64 c.reply, .int .i64 c.silence, .int .i64 c.retries, .int .i64 c.offline, .int .i64 c.select, .int .i64 c.confirm, .int .i64 c.frag, .int .i64 c.r0, .int .i64 c.r1, .int .i64 c.r2, sl, po, .slice (some ⟨b, off, none⟩) c.points.length q3, ct] 28) = w0 at *
      go_loopg [5, 6] i (fun k s5 s6 wr => ∃ j : Nat, j ≤ i ∧ k = i - j ∧ s5 = .int .i64 ((plc (ptIs c.points y.kind) j).length : Int) ∧ s6 = .int .i64 (j : Int) ∧ Hid (Below w0.heap.size w0 wr))
      case atStart => exact ⟨0, Nat.zero_le _, rfl, rfl, rfl, Lib.hid (Below.refl _ _)⟩
      case round =>
        obtain ⟨j, hj, rfl, rfl, rfl, HW⟩ := hrel
        have k15' : wr.cell? ⟨w.heap.size, 15, none⟩ = some (.slice (some ⟨b, off, none⟩) c.points.length q3) := (HW.out.cell (lt_cell k15)).trans k15
        have p0' : wr.cell? ⟨b, off + i * 8, none⟩ = some (.int .i64 y.kind) := (HW.out.cell (lt_cell p0)).trans p0
        by_cases hlt : j < i
        · have hjn : j < c.points.length := by omega
          obtain ⟨b', off', e', r0, _⟩ := row8_of (HL.out.pt.on HW.out) j hjn
          simp only [Option.some.injEq, Addr.mk.injEq, and_true] at e'
          obtain ⟨rfl, rfl⟩ := e'
          have HK : Hid (ptIs c.points y.kind j = (c.points[j].kind == y.kind)) := Lib.hid (by simp [ptIs, hjn])
          have hj1 : (j : Int) < (c.points.length : Int) := by omega
          have hj0 : (0 : Int) ≤ (j : Int) := by omega
          have hjI : (j : Int) < (i : Int) := by omega
          have HPL := Lib.hid (plc_le (ptIs c.points y.kind) j)
          have HP := Lib.hid (plc_succ (ptIs c.points y.kind) j)
          generalize c.points[j] = z at *
          rcases Bool.eq_false_or_eq_true (z.kind == y.kind) with h2 | h2
          · have HN : Hid (Value.int .i64 (wrap64 (((plc (ptIs c.points y.kind) j).length : Int) + 1)) = .int .i64 ((plc (ptIs c.points y.kind) (j + 1)).length : Int)) := Lib.hid (by
              have := next_i64 (plc (ptIs c.points y.kind) j).length (by have := HPL.out; have := HI.out; omega)
              rw [this, HP.out, HK.out, h2, if_pos rfl, List.length_append]
              rfl)
            clear HK HP
            generalize ((plc (ptIs c.points y.kind) j).length : Int) = m at *
            go_wp2
            go_quiet (fail)
            go_wp2
            go_roundg (i - (j + 1))
            case measure => omega
            case rel => exact ⟨j + 1, by omega, rfl, HN.out, next_i64 j (by have := HI.out; omega), Lib.hid (HW.out.trans ((below_drewN (Below.refl _ _) _).mono HW.out.size))⟩
          · have HN : Hid (Value.int .i64 ((plc (ptIs c.points y.kind) j).length : Int) = .int .i64 ((plc (ptIs c.points y.kind) (j + 1)).length : Int)) := Lib.hid (by
              rw [HP.out, HK.out, h2]
              rfl)
            clear HK HP
            generalize ((plc (ptIs c.points y.kind) j).length : Int) = m at *
            go_wp2
            go_quiet (fail)
            go_wp2
            go_roundg (i - (j + 1))
            case measure => omega
            case rel => exact ⟨j + 1, by omega, rfl, HN.out, next_i64 j (by have := HI.out; omega), Lib.hid (HW.out.trans ((below_drewN (Below.refl _ _) _).mono HW.out.size))⟩
        · have hji : j = i := by omega
          subst hji
          go_wp2
          go_ret
          exact ⟨rfl, HB.out.trans (HW.out.mono HB.out.size)⟩
    · have h1' : (c.points.length : Int) ≤ place := by omega
      have HR := Lib.hid (show indexN c place = -1 by unfold indexN; rw [if_neg (by omega)])
      rw [HR.out]
      clear HR h1
      go_enter Tryz.func31, Tryz.ntmps31
      go_wp2
      go_ret
      exact ⟨rfl, HB.out⟩
end Go.Proofs.YtpocjmlkhophoaaGreatDoor
/- yardref6.Count and yardref6.Find: what they answer; all older memory stands. -/
namespace Go.Proofs.YtpocjmlkhophoaaGreatDoor
open Go.RowKit Go.Extern.Stop Go.Stop Go.Extern

/-- How far a search has come: i places, z of those at which f holds are still to be passed. -/
def Srch (f : Nat → Bool) (index : Int) (i : Nat) (z : Int) : Prop := z = index - (plc f i).length
theorem Srch.hit {f : Nat → Bool} {index : Int} {i n : Nat} (h : Srch f index i 0) (hi : i < n) (hf : f i = true) : 0 ≤ index ∧ index < ((plc f n).length : Int) ∧ (plc f n).getD index.toNat 0 = (i : Int) := by
  have ha := plc_at f i n hi hf
  have hlt := (List.getElem?_eq_some_iff.1 ha).1
  unfold Srch at h
  have hx : index = ((plc f i).length : Int) := by omega
  subst hx
  refine ⟨by omega, by omega, ?_⟩
  rw [Int.toNat_natCast, List.getD_eq_getElem?_getD, ha]
  rfl
theorem Srch.pass {f : Nat → Bool} {index : Int} {i : Nat} {z : Int} (h : Srch f index i z) (hf : f i = true) : Srch f index (i + 1) (z - 1) := by
  unfold Srch at *
  rw [plc_succ, hf, if_pos rfl, List.length_append, List.length_singleton]
  omega
theorem Srch.miss {f : Nat → Bool} {index : Int} {i : Nat} {z : Int} (h : Srch f index i z) (hf : f i = false) : Srch f index (i + 1) z := by
  unfold Srch at *
  rw [plc_succ, hf]
  exact h
theorem Srch.none {f : Nat → Bool} {index : Int} {n : Nat} {z : Int} (h : Srch f index n z) (hz : 0 ≤ z) : ¬ (0 ≤ index ∧ index < ((plc f n).length : Int)) := by
  unfold Srch at h
  omega
theorem wrap_dec {z : Int} (h0 : 0 < z) (h1 : z ≤ 9223372036854775807) : wrap64 (z - 1) = z - 1 := by
  unfold wrap64
  omega

set_option maxRecDepth 100000 in
set_option maxHeartbeats 4000000 in
theorem rfind_neg (c : Cfg) (kind index : Int) (sl po pt ct : Value) (w : World) (hneg : index < 0) : Calls Tryz.prog 27 #[cfgV c sl po pt ct, .int .i64 kind, .int .i64 index] w fun e w' => e = .returned (.tuple #[.int .i64 0, .bool false]) ∧ Below w.heap.size w w' := by
  have HB := Lib.hid (below_new w (.cells #[.int .i64 c.own, .int .i64 c.master, .bool c.unsol, .int .i64 c.reply, .int .i64 c.silence, .int .i64 c.retries, .int .i64 c.offline, .int .i64 c.select, .int .i64 c.confirm, .int .i64 c.frag, .int .i64 c.r0, .int .i64 c.r1, .int .i64 c.r2, sl, po, pt, ct] 28))
  unfold cfgV
  go_enter Tryz.func27, Tryz.ntmps27
  go_wp2
  go_ret2
  exact ⟨rfl, HB.out⟩
set_option maxRecDepth 100000 in
set_option maxHeartbeats 4000000 in
theorem rfind_none (c : Cfg) (kind index : Int) (sl po pt ct : Value) (w : World) (h0 : 0 ≤ index) (hk : kind < 1 ∨ 7 < kind) : Calls Tryz.prog 27 #[cfgV c sl po pt ct, .int .i64 kind, .int .i64 index] w fun e w' => e = .returned (.tuple #[.int .i64 0, .bool false]) ∧ Below w.heap.size w w' := by
  have HB := Lib.hid (below_new w (.cells #[.int .i64 c.own, .int .i64 c.master, .bool c.unsol, .int .i64 c.reply, .int .i64 c.silence, .int .i64 c.retries, .int .i64 c.offline, .int .i64 c.select, .int .i64 c.confirm, .int .i64 c.frag, .int .i64 c.r0, .int .i64 c.r1, .int .i64 c.r2, sl, po, pt, ct] 28))
  have e6 : (kind == 6) = false := by simp; omega
  have e7 : (kind == 7) = false := by simp; omega
  have h0' : ¬ index < 0 := by omega
  unfold cfgV
  rcases hk with hk | hk
  · go_enter Tryz.func27, Tryz.ntmps27
    go_wp2
    go_ret2
    exact ⟨rfl, HB.out⟩
  · have h1 : ¬ kind < 1 := by omega
    have h5 : 5 < kind := by omega
    go_enter Tryz.func27, Tryz.ntmps27
    go_wp2
    go_ret2
    exact ⟨rfl, HB.out⟩

set_option maxRecDepth 100000 in
set_option maxHeartbeats 4000000 in
theorem rfind_ctls (c : Cfg) (kind index : Int) (sl po pt ct : Value) (w : World) (hl : ListsAt w c sl po pt ct) (hf : FewC c) (h0 : 0 ≤ index) (hix : index ≤ 9223372036854775807) (hk : kind = 6 ∨ kind = 7) : Calls Tryz.prog 27 #[cfgV c sl po pt ct, .int .i64 kind, .int .i64 index] w fun e w' => e = .returned (.tuple #[.int .i64 (findN c kind index).1, .bool (findN c kind index).2]) ∧ Below w.heap.size w w' := by
  have HB := Lib.hid (below_new w (.cells #[.int .i64 c.own, .int .i64 c.master, .bool c.unsol, .int .i64 c.reply, .int .i64 c.silence, .int .i64 c.retries, .int .i64 c.offline, .int .i64 c.select, .int .i64 c.confirm, .int .i64 c.frag, .int .i64 c.r0, .int .i64 c.r1, .int .i64 c.r2, sl, po, pt, ct] 28))
  have HX := Lib.hid (cfgBox_new w c sl po pt ct)
  have HL := Lib.hid (hl.on HB.out)
  have HF := Lib.hid hf
  obtain ⟨a4, q4, rfl, hq4⟩ := hl.ct.form
  obtain ⟨k13, k14, k15, k16⟩ := HX.out.lists
  have HP : Hid (placesN c kind = plc (ctlIs c.ctls kind) c.ctls.length) := Lib.hid (by unfold placesN; rw [if_neg (by omega), if_pos hk])
  have HY : Hid (∀ i : Nat, i < c.ctls.length → Srch (ctlIs c.ctls kind) index i 0 → ctlIs c.ctls kind i = true → findN c kind index = ((i : Int), true)) := Lib.hid (fun i hi hs hf => by
    obtain ⟨g1, g2, g3⟩ := hs.hit hi hf
    unfold findN
    rw [HP.out, if_pos ⟨g1, g2⟩, g3])
  have HN : Hid (∀ z : Int, 0 ≤ z → Srch (ctlIs c.ctls kind) index c.ctls.length z → findN c kind index = (0, false)) := Lib.hid (fun z hz hs => by
    unfold findN
    rw [HP.out, if_neg (hs.none hz)])
  clear hl hf HP HX k13 k14 k15
  generalize findN c kind index = R at *
  have HS0 : Hid (Srch (ctlIs c.ctls kind) index 0 index) := Lib.hid (by unfold Srch; simp [plc])
  have h0' : ¬ index < 0 := by omega
  unfold cfgV
  rcases hk with rfl | rfl
  · go_enter Tryz.func27, Tryz.ntmps27
    go_wp2
    generalize w.alloc (.cells #[.int .i64 c.own, .int .i64 c.master, .bool c.unsol, .int .i64 c.reply, .int .i64 c.silence, .int .i64 c.retries, .int .i64 c.offline, .int .i64 c.select, .int .i64 c.confirm, .int .i64 c.frag, .int .i64 c.r0, .int .i64 c.r1, .int .i64 c.r2, sl, po, pt, .slice a4 c.ctls.length q4] 28) = w0 at *
    go_loopg [2, 8] c.ctls.length (fun k s2 sx wr => ∃ (i : Nat) (z : Int), i ≤ c.ctls.length ∧ k = c.ctls.length - i ∧ s2 = .int .i64 z ∧ sx = .int .i64 (i : Int) ∧ 0 ≤ z ∧ z ≤ 9223372036854775807 ∧ Hid (Srch (ctlIs c.ctls 6) index i z ∧ wr = w0))
    case atStart => exact ⟨0, index, Nat.zero_le _, rfl, rfl, rfl, h0, hix, Lib.hid ⟨HS0.out, rfl⟩⟩
    case round =>
      obtain ⟨i, z, hi, rfl, rfl, rfl, hz0, hz1, HI⟩ := hrel
      obtain ⟨HSi, hw⟩ := HI.out
      subst hw
      have HSI := Lib.hid HSi
      clear HSi HI
      by_cases hlt : i < c.ctls.length
      · obtain ⟨b, off, rfl, p0, p1, p2⟩ := row3_of HL.out.ct i hlt
        have HK : Hid (ctlIs c.ctls 6 i = (c.ctls[i].kind == 6)) := Lib.hid (by simp [ctlIs, hlt])
        have HJ := Lib.hid (show i < 1000000 by have := HF.out.2.2.2; omega)
        generalize c.ctls[i] = y at *
        rcases Bool.eq_false_or_eq_true (y.kind == 6) with h2 | h2
        · have HT := Lib.hid (show ctlIs c.ctls 6 i = true by rw [HK.out]; exact h2)
          by_cases hz : z = 0
          · subst hz
            have HR := Lib.hid (HY.out i hlt HSI.out HT.out)
            go_wp2
            go_ret2
            rw [HR.out]
            exact ⟨rfl, HB.out⟩
          · have hzb : (z == 0) = false := by simpa using hz
            have HN2 := Lib.hid (HSI.out.pass HT.out)
            have hw1 : wrap64 (z - 1) = z - 1 := wrap_dec (by omega) hz1
            have hz2 : 0 ≤ z - 1 := by omega
            have hz3 : z - 1 ≤ 9223372036854775807 := by omega
            go_wp2
            go_roundg (c.ctls.length - (i + 1))
            case measure => omega
            case rel => exact ⟨i + 1, z - 1, by omega, rfl, by first | rfl | (rw [hw1]), next_i64 i HJ.out, hz2, hz3, Lib.hid ⟨HN2.out, rfl⟩⟩
        · have HN2 := Lib.hid (HSI.out.miss (by rw [HK.out]; exact h2))
          go_wp2
          go_roundg (c.ctls.length - (i + 1))
          case measure => omega
          case rel => exact ⟨i + 1, z, by omega, rfl, rfl, next_i64 i HJ.out, hz0, hz1, Lib.hid ⟨HN2.out, rfl⟩⟩
      · have hil : i = c.ctls.length := by omega
        have HR := Lib.hid (HN.out z hz0 (by rw [← hil]; exact HSI.out))
        clear hil
        go_wp2
        go_ret2
        rw [HR.out]
        exact ⟨rfl, HB.out⟩
  · go_enter Tryz.func27, Tryz.ntmps27
    go_wp2
    generalize w.alloc (.cells #[.int .i64 c.own, .int .i64 c.master, .bool c.unsol, .int .i64 c.reply, .int .i64 c.silence, .int .i64 c.retries, .int .i64 c.offline, .int .i64 c.select, .int .i64 c.confirm, .int .i64 c.frag, .int .i64 c.r0, .int .i64 c.r1, .int .i64 c.r2, sl, po, pt, .slice a4 c.ctls.length q4] 28) = w0 at *
    go_loopg [2, 8] c.ctls.length (fun k s2 sx wr => ∃ (i : Nat) (z : Int), i ≤ c.ctls.length ∧ k = c.ctls.length - i ∧ s2 = .int .i64 z ∧ sx = .int .i64 (i : Int) ∧ 0 ≤ z ∧ z ≤ 9223372036854775807 ∧ Hid (Srch (ctlIs c.ctls 7) index i z ∧ wr = w0))
    case atStart => exact ⟨0, index, Nat.zero_le _, rfl, rfl, rfl, h0, hix, Lib.hid ⟨HS0.out, rfl⟩⟩
    case round =>
      obtain ⟨i, z, hi, rfl, rfl, rfl, hz0, hz1, HI⟩ := hrel
      obtain ⟨HSi, hw⟩ := HI.out
      subst hw
      have HSI := Lib.hid HSi
      clear HSi HI
      by_cases hlt : i < c.ctls.length
      · obtain ⟨b, off, rfl, p0, p1, p2⟩ := row3_of HL.out.ct i hlt
        have HK : Hid (ctlIs c.ctls 7 i = (c.ctls[i].kind == 7)) := Lib.hid (by simp [ctlIs, hlt])
        have HJ := Lib.hid (show i < 1000000 by have := HF.out.2.2.2; omega)
        generalize c.ctls[i] = y at *
        rcases Bool.eq_false_or_eq_true (y.kind == 7) with h2 | h2
        · have HT := Lib.hid (show ctlIs c.ctls 7 i = true by rw [HK.out]; exact h2)
          by_cases hz : z = 0
          · subst hz
            have HR := Lib.hid (HY.out i hlt HSI.out HT.out)
            go_wp2
            go_ret2
            rw [HR.out]
            exact ⟨rfl, HB.out⟩
          · have hzb : (z == 0) = false := by simpa using hz
            have HN2 := Lib.hid (HSI.out.pass HT.out)
            have hw1 : wrap64 (z - 1) = z - 1 := wrap_dec (by omega) hz1
            have hz2 : 0 ≤ z - 1 := by omega
            have hz3 : z - 1 ≤ 9223372036854775807 := by omega
            go_wp2
            go_roundg (c.ctls.length - (i + 1))
            case measure => omega
            case rel => exact ⟨i + 1, z - 1, by omega, rfl, by first | rfl | (rw [hw1]), next_i64 i HJ.out, hz2, hz3, Lib.hid ⟨HN2.out, rfl⟩⟩
        · have HN2 := Lib.hid (HSI.out.miss (by rw [HK.out]; exact h2))
          go_wp2
          go_roundg (c.ctls.length - (i + 1))
          case measure => omega
          case rel => exact ⟨i + 1, z, by omega, rfl, rfl, next_i64 i HJ.out, hz0, hz1, Lib.hid ⟨HN2.out, rfl⟩⟩
      · have hil : i = c.ctls.length := by omega
        have HR := Lib.hid (HN.out z hz0 (by rw [← hil]; exact HSI.out))
        clear hil
        go_wp2
        go_ret2
        rw [HR.out]
        exact ⟨rfl, HB.out⟩

set_option maxRecDepth 100000 in
set_option maxHeartbeats 4000000 in
theorem rfind_points (c : Cfg) (kind index : Int) (sl po pt ct : Value) (w : World) (hl : ListsAt w c sl po pt ct) (hf : FewC c) (h0 : 0 ≤ index) (hix : index ≤ 9223372036854775807) (hk : 1 ≤ kind ∧ kind ≤ 5) : Calls Tryz.prog 27 #[cfgV c sl po pt ct, .int .i64 kind, .int .i64 index] w fun e w' => e = .returned (.tuple #[.int .i64 (findN c kind index).1, .bool (findN c kind index).2]) ∧ Below w.heap.size w w' := by
  have HB := Lib.hid (below_new w (.cells #[.int .i64 c.own, .int .i64 c.master, .bool c.unsol, .int .i64 c.reply, .int .i64 c.silence, .int .i64 c.retries, .int .i64 c.offline, .int .i64 c.select, .int .i64 c.confirm, .int .i64 c.frag, .int .i64 c.r0, .int .i64 c.r1, .int .i64 c.r2, sl, po, pt, ct] 28))
  have HX := Lib.hid (cfgBox_new w c sl po pt ct)
  have HL := Lib.hid (hl.on HB.out)
  have HF := Lib.hid hf
  obtain ⟨a4, q4, rfl, hq4⟩ := hl.pt.form
  obtain ⟨k13, k14, k15, k16⟩ := HX.out.lists
  have HP : Hid (placesN c kind = plc (ptIs c.points (kindK kind)) c.points.length) := Lib.hid (by unfold placesN; rw [if_pos hk])
  have HY : Hid (∀ i : Nat, i < c.points.length → Srch (ptIs c.points (kindK kind)) index i 0 → ptIs c.points (kindK kind) i = true → findN c kind index = ((i : Int), true)) := Lib.hid (fun i hi hs hf => by
    obtain ⟨g1, g2, g3⟩ := hs.hit hi hf
    unfold findN
    rw [HP.out, if_pos ⟨g1, g2⟩, g3])
  have HN : Hid (∀ z : Int, 0 ≤ z → Srch (ptIs c.points (kindK kind)) index c.points.length z → findN c kind index = (0, false)) := Lib.hid (fun z hz hs => by
    unfold findN
    rw [HP.out, if_neg (hs.none hz)])
  clear hl hf HP HX k13 k14 k16
  generalize findN c kind index = R at *
  have HS0 : Hid (Srch (ptIs c.points (kindK kind)) index 0 index) := Lib.hid (by unfold Srch; simp [plc])
  have h0' : ¬ index < 0 := by omega
  unfold cfgV
  have h5 : kind = 1 ∨ kind = 2 ∨ kind = 3 ∨ kind = 4 ∨ kind = 5 := by omega
  clear hk
  rcases h5 with rfl | rfl | rfl | rfl | rfl
  · go_enter Tryz.func27, Tryz.ntmps27
    go_wp2
    generalize w.alloc (.cells #[.int .i64 c.own, .int .i64 c.master, .bool c.unsol, .int .i64 c.reply, .int .i64 c.silence, .int .i64 c.retries, .int .i64 c.offline, .int .i64 c.select, .int .i64 c.confirm, .int .i64 c.frag, .int .i64 c.r0, .int .i64 c.r1, .int .i64 c.r2, sl, po, .slice a4 c.points.length q4, ct] 28) = w0 at *
    go_loopg [2, 9] c.points.length (fun k s2 sx wr => ∃ (i : Nat) (z : Int), i ≤ c.points.length ∧ k = c.points.length - i ∧ s2 = .int .i64 z ∧ sx = .int .i64 (i : Int) ∧ 0 ≤ z ∧ z ≤ 9223372036854775807 ∧ Hid (Srch (ptIs c.points (kindK 1)) index i z ∧ wr = w0))
    case atStart => exact ⟨0, index, Nat.zero_le _, rfl, rfl, rfl, h0, hix, Lib.hid ⟨HS0.out, rfl⟩⟩
    case round =>
      obtain ⟨i, z, hi, rfl, rfl, rfl, hz0, hz1, HI⟩ := hrel
      obtain ⟨HSi, hw⟩ := HI.out
      subst hw
      have HSI := Lib.hid HSi
      clear HSi HI
      by_cases hlt : i < c.points.length
      · obtain ⟨b, off, rfl, p0, p1, p2, p3, p4, p5, p6, p7⟩ := row8_of HL.out.pt i hlt
        have HK : Hid (ptIs c.points (kindK 1) i = (c.points[i].kind == 1)) := Lib.hid (by simp [ptIs, hlt, kindK])
        have HJ := Lib.hid (show i < 1000000 by have := HF.out.2.2.1; omega)
        generalize c.points[i] = y at *
        rcases Bool.eq_false_or_eq_true (y.kind == 1) with h2 | h2
        · have HT := Lib.hid (show ptIs c.points (kindK 1) i = true by rw [HK.out]; exact h2)
          by_cases hz : z = 0
          · subst hz
            have HR := Lib.hid (HY.out i hlt HSI.out HT.out)
            go_wp2
            go_ret2
            rw [HR.out]
            exact ⟨rfl, HB.out⟩
          · have hzb : (z == 0) = false := by simpa using hz
            have HN2 := Lib.hid (HSI.out.pass HT.out)
            have hw1 : wrap64 (z - 1) = z - 1 := wrap_dec (by omega) hz1
            have hz2 : 0 ≤ z - 1 := by omega
            have hz3 : z - 1 ≤ 9223372036854775807 := by omega
            go_wp2
            go_roundg (c.points.length - (i + 1))
            case measure => omega
            case rel => exact ⟨i + 1, z - 1, by omega, rfl, by first | rfl | (rw [hw1]), next_i64 i HJ.out, hz2, hz3, Lib.hid ⟨HN2.out, rfl⟩⟩
        · have HN2 := Lib.hid (HSI.out.miss (by rw [HK.out]; exact h2))
          go_wp2
          go_roundg (c.points.length - (i + 1))
          case measure => omega
          case rel => exact ⟨i + 1, z, by omega, rfl, rfl, next_i64 i HJ.out, hz0, hz1, Lib.hid ⟨HN2.out, rfl⟩⟩
      · have hil : i = c.points.length := by omega
        have HR := Lib.hid (HN.out z hz0 (by rw [← hil]; exact HSI.out))
        clear hil
        go_wp2
        go_ret2
        rw [HR.out]
        exact ⟨rfl, HB.out⟩
  · go_enter Tryz.func27, Tryz.ntmps27
    go_wp2
    generalize w.alloc (.cells #[.int .i64 c.own, .int .i64 c.master, .bool c.unsol, .int .i64 c.reply, .int .i64 c.silence, .int .i64 c.retries, .int .i64 c.offline, .int .i64 c.select, .int .i64 c.confirm, .int .i64 c.frag, .int .i64 c.r0, .int .i64 c.r1, .int .i64 c.r2, sl, po, .slice a4 c.points.length q4, ct] 28) = w0 at *
    go_loopg [2, 9] c.points.length (fun k s2 sx wr => ∃ (i : Nat) (z : Int), i ≤ c.points.length ∧ k = c.points.length - i ∧ s2 = .int .i64 z ∧ sx = .int .i64 (i : Int) ∧ 0 ≤ z ∧ z ≤ 9223372036854775807 ∧ Hid (Srch (ptIs c.points (kindK 2)) index i z ∧ wr = w0))
    case atStart => exact ⟨0, index, Nat.zero_le _, rfl, rfl, rfl, h0, hix, Lib.hid ⟨HS0.out, rfl⟩⟩
    case round =>
      obtain ⟨i, z, hi, rfl, rfl, rfl, hz0, hz1, HI⟩ := hrel
      obtain ⟨HSi, hw⟩ := HI.out
      subst hw
      have HSI := Lib.hid HSi
      clear HSi HI
      by_cases hlt : i < c.points.length
      · obtain ⟨b, off, rfl, p0, p1, p2, p3, p4, p5, p6, p7⟩ := row8_of HL.out.pt i hlt
        have HK : Hid (ptIs c.points (kindK 2) i = (c.points[i].kind == 2)) := Lib.hid (by simp [ptIs, hlt, kindK])
        have HJ := Lib.hid (show i < 1000000 by have := HF.out.2.2.1; omega)
        generalize c.points[i] = y at *
        rcases Bool.eq_false_or_eq_true (y.kind == 2) with h2 | h2
        · have HT := Lib.hid (show ptIs c.points (kindK 2) i = true by rw [HK.out]; exact h2)
          by_cases hz : z = 0
          · subst hz
            have HR := Lib.hid (HY.out i hlt HSI.out HT.out)
            go_wp2
            go_ret2
            rw [HR.out]
            exact ⟨rfl, HB.out⟩
          · have hzb : (z == 0) = false := by simpa using hz
            have HN2 := Lib.hid (HSI.out.pass HT.out)
            have hw1 : wrap64 (z - 1) = z - 1 := wrap_dec (by omega) hz1
            have hz2 : 0 ≤ z - 1 := by omega
            have hz3 : z - 1 ≤ 9223372036854775807 := by omega
            go_wp2
            go_roundg (c.points.length - (i + 1))
            case measure => omega
            case rel => exact ⟨i + 1, z - 1, by omega, rfl, by first | rfl | (rw [hw1]), next_i64 i HJ.out, hz2, hz3, Lib.hid ⟨HN2.out, rfl⟩⟩
        · have HN2 := Lib.hid (HSI.out.miss (by rw [HK.out]; exact h2))
          go_wp2
          go_roundg (c.points.length - (i + 1))
          case measure => omega
          case rel => exact ⟨i + 1, z, by omega, rfl, rfl, next_i64 i HJ.out, hz0, hz1, Lib.hid ⟨HN2.out, rfl⟩⟩
      · have hil : i = c.points.length := by omega
        have HR := Lib.hid (HN.out z hz0 (by rw [← hil]; exact HSI.out))
        clear hil
        go_wp2
        go_ret2
        rw [HR.out]
        exact ⟨rfl, HB.out⟩
  · go_enter Tryz.func27, Tryz.ntmps27
    go_wp2
    generalize w.alloc (.cells #[.int .i64 c.own, .int .i64 c.master, .bool c.unsol, .int .i64 c.reply, .int .i64 c.silence, .int .i64 c.retries, .int .i64 c.offline, .int .i64 c.select, .int .i64 c.confirm, .int .i64 c.frag, .int .i64 c.r0, .int .i64 c.r1, .int .i64 c.r2, sl, po, .slice a4 c.points.length q4, ct] 28) = w0 at *
    go_loopg [2, 9] c.points.length (fun k s2 sx wr => ∃ (i : Nat) (z : Int), i ≤ c.points.length ∧ k = c.points.length - i ∧ s2 = .int .i64 z ∧ sx = .int .i64 (i : Int) ∧ 0 ≤ z ∧ z ≤ 9223372036854775807 ∧ Hid (Srch (ptIs c.points (kindK 3)) index i z ∧ wr = w0))
    case atStart => exact ⟨0, index, Nat.zero_le _, rfl, rfl, rfl, h0, hix, Lib.hid ⟨HS0.out, rfl⟩⟩
    case round =>
      obtain ⟨i, z, hi, rfl, rfl, rfl, hz0, hz1, HI⟩ := hrel
      obtain ⟨HSi, hw⟩ := HI.out
      subst hw
      have HSI := Lib.hid HSi
      clear HSi HI
      by_cases hlt : i < c.points.length
      · obtain ⟨b, off, rfl, p0, p1, p2, p3, p4, p5, p6, p7⟩ := row8_of HL.out.pt i hlt
        have HK : Hid (ptIs c.points (kindK 3) i = (c.points[i].kind == 3)) := Lib.hid (by simp [ptIs, hlt, kindK])
        have HJ := Lib.hid (show i < 1000000 by have := HF.out.2.2.1; omega)
        generalize c.points[i] = y at *
        rcases Bool.eq_false_or_eq_true (y.kind == 3) with h2 | h2
        · have HT := Lib.hid (show ptIs c.points (kindK 3) i = true by rw [HK.out]; exact h2)
          by_cases hz : z = 0
          · subst hz
            have HR := Lib.hid (HY.out i hlt HSI.out HT.out)
            go_wp2
            go_ret2
            rw [HR.out]
            exact ⟨rfl, HB.out⟩
          · have hzb : (z == 0) = false := by simpa using hz
            have HN2 := Lib.hid (HSI.out.pass HT.out)
            have hw1 : wrap64 (z - 1) = z - 1 := wrap_dec (by omega) hz1
            have hz2 : 0 ≤ z - 1 := by omega
            have hz3 : z - 1 ≤ 9223372036854775807 := by omega
            go_wp2
            go_roundg (c.points.length - (i + 1))
            case measure => omega
            case rel => exact ⟨i + 1, z - 1, by omega, rfl, by first | rfl | (rw [hw1]), next_i64 i HJ.out, hz2, hz3, Lib.hid ⟨HN2.out, rfl⟩⟩
        · have HN2 := Lib.hid (HSI.out.miss (by rw [HK.out]; exact h2))
          go_wp2
          go_roundg (c.points.length - (i + 1))
          case measure => omega
          case rel => exact ⟨i + 1, z, by omega, rfl, rfl, next_i64 i HJ.out, hz0, hz1, Lib.hid ⟨HN2.out, rfl⟩⟩
      · have hil : i = c.points.length := by omega
        have HR := Lib.hid (HN.out z hz0 (by rw [← hil]; exact HSI.out))
        clear hil
        go_wp2
        go_ret2
        rw [HR.out]
        exact ⟨rfl, HB.out⟩
  · go_enter Tryz.func27, Tryz.ntmps27
    go_wp2
    generalize w.alloc (.cells #[.int .i64 c.own, .int .i64 c.master, .bool c.unsol, .int .i64 c.reply, .int .i64 c.silence, .int .i64 c.retries, .int .i64 c.offline, .int .i64 c.select, .int .i64 c.confirm, .int .i64 c.frag, .int .i64 c.r0, .int .i64 c.r1, .int .i64 c.r2, sl, po, .slice a4 c.points.length q4, ct] 28) = w0 at *
    go_loopg [2, 9] c.points.length (fun k s2 sx wr => ∃ (i : Nat) (z : Int), i ≤ c.points.length ∧ k = c.points.length - i ∧ s2 = .int .i64 z ∧ sx = .int .i64 (i : Int) ∧ 0 ≤ z ∧ z ≤ 9223372036854775807 ∧ Hid (Srch (ptIs c.points (kindK 4)) index i z ∧ wr = w0))
    case atStart => exact ⟨0, index, Nat.zero_le _, rfl, rfl, rfl, h0, hix, Lib.hid ⟨HS0.out, rfl⟩⟩
    case round =>
      obtain ⟨i, z, hi, rfl, rfl, rfl, hz0, hz1, HI⟩ := hrel
      obtain ⟨HSi, hw⟩ := HI.out
      subst hw
      have HSI := Lib.hid HSi
      clear HSi HI
      by_cases hlt : i < c.points.length
      · obtain ⟨b, off, rfl, p0, p1, p2, p3, p4, p5, p6, p7⟩ := row8_of HL.out.pt i hlt
        have HK : Hid (ptIs c.points (kindK 4) i = (c.points[i].kind == 4)) := Lib.hid (by simp [ptIs, hlt, kindK])
        have HJ := Lib.hid (show i < 1000000 by have := HF.out.2.2.1; omega)
        generalize c.points[i] = y at *
        rcases Bool.eq_false_or_eq_true (y.kind == 4) with h2 | h2
        · have HT := Lib.hid (show ptIs c.points (kindK 4) i = true by rw [HK.out]; exact h2)
          by_cases hz : z = 0
          · subst hz
            have HR := Lib.hid (HY.out i hlt HSI.out HT.out)
            go_wp2
            go_ret2
            rw [HR.out]
            exact ⟨rfl, HB.out⟩
          · have hzb : (z == 0) = false := by simpa using hz
            have HN2 := Lib.hid (HSI.out.pass HT.out)
            have hw1 : wrap64 (z - 1) = z - 1 := wrap_dec (by omega) hz1
            have hz2 : 0 ≤ z - 1 := by omega
            have hz3 : z - 1 ≤ 9223372036854775807 := by omega
            go_wp2
            go_roundg (c.points.length - (i + 1))
            case measure => omega
            case rel => exact ⟨i + 1, z - 1, by omega, rfl, by first | rfl | (rw [hw1]), next_i64 i HJ.out, hz2, hz3, Lib.hid ⟨HN2.out, rfl⟩⟩
        · have HN2 := Lib.hid (HSI.out.miss (by rw [HK.out]; exact h2))
          go_wp2
          go_roundg (c.points.length - (i + 1))
          case measure => omega
          case rel => exact ⟨i + 1, z, by omega, rfl, rfl, next_i64 i HJ.out, hz0, hz1, Lib.hid ⟨HN2.out, rfl⟩⟩
      · have hil : i = c.points.length := by omega
        have HR := Lib.hid (HN.out z hz0 (by rw [← hil]; exact HSI.out))
        clear hil
        go_wp2
        go_ret2
        rw [HR.out]
        exact ⟨rfl, HB.out⟩
  · go_enter Tryz.func27, Tryz.ntmps27
    go_wp2
    generalize w.alloc (.cells #[.int .i64 c.own, .int .i64 c.master, .bool c.unsol, .int .i64 c.reply, .int .i64 c.silence, .int .i64 c.retries, .int .i64 c.offline, .int .i64 c.select, .int .i64 c.confirm, .int .i64 c.frag, .int .i64 c.r0, .int .i64 c.r1, .int .i64 c.r2, sl, po, .slice a4 c.points.length q4, ct] 28) = w0 at *
    go_loopg [2, 9] c.points.length (fun k s2 sx wr => ∃ (i : Nat) (z : Int), i ≤ c.points.length ∧ k = c.points.length - i ∧ s2 = .int .i64 z ∧ sx = .int .i64 (i : Int) ∧ 0 ≤ z ∧ z ≤ 9223372036854775807 ∧ Hid (Srch (ptIs c.points (kindK 5)) index i z ∧ wr = w0))
    case atStart => exact ⟨0, index, Nat.zero_le _, rfl, rfl, rfl, h0, hix, Lib.hid ⟨HS0.out, rfl⟩⟩
    case round =>
      obtain ⟨i, z, hi, rfl, rfl, rfl, hz0, hz1, HI⟩ := hrel
      obtain ⟨HSi, hw⟩ := HI.out
      subst hw
      have HSI := Lib.hid HSi
      clear HSi HI
      by_cases hlt : i < c.points.length
      · obtain ⟨b, off, rfl, p0, p1, p2, p3, p4, p5, p6, p7⟩ := row8_of HL.out.pt i hlt
        have HK : Hid (ptIs c.points (kindK 5) i = (c.points[i].kind == 4)) := Lib.hid (by simp [ptIs, hlt, kindK])
        have HJ := Lib.hid (show i < 1000000 by have := HF.out.2.2.1; omega)
        generalize c.points[i] = y at *
        rcases Bool.eq_false_or_eq_true (y.kind == 4) with h2 | h2
        · have HT := Lib.hid (show ptIs c.points (kindK 5) i = true by rw [HK.out]; exact h2)
          by_cases hz : z = 0
          · subst hz
            have HR := Lib.hid (HY.out i hlt HSI.out HT.out)
            go_wp2
            go_ret2
            rw [HR.out]
            exact ⟨rfl, HB.out⟩
          · have hzb : (z == 0) = false := by simpa using hz
            have HN2 := Lib.hid (HSI.out.pass HT.out)
            have hw1 : wrap64 (z - 1) = z - 1 := wrap_dec (by omega) hz1
            have hz2 : 0 ≤ z - 1 := by omega
            have hz3 : z - 1 ≤ 9223372036854775807 := by omega
            go_wp2
            go_roundg (c.points.length - (i + 1))
            case measure => omega
            case rel => exact ⟨i + 1, z - 1, by omega, rfl, by first | rfl | (rw [hw1]), next_i64 i HJ.out, hz2, hz3, Lib.hid ⟨HN2.out, rfl⟩⟩
        · have HN2 := Lib.hid (HSI.out.miss (by rw [HK.out]; exact h2))
          go_wp2
          go_roundg (c.points.length - (i + 1))
          case measure => omega
          case rel => exact ⟨i + 1, z, by omega, rfl, rfl, next_i64 i HJ.out, hz0, hz1, Lib.hid ⟨HN2.out, rfl⟩⟩
      · have hil : i = c.points.length := by omega
        have HR := Lib.hid (HN.out z hz0 (by rw [← hil]; exact HSI.out))
        clear hil
        go_wp2
        go_ret2
        rw [HR.out]
        exact ⟨rfl, HB.out⟩

/-- yardref6.Find. -/
theorem rfind_any (c : Cfg) (kind index : Int) (sl po pt ct : Value) (w : World) (hl : ListsAt w c sl po pt ct) (hf : FewC c) (hix : index ≤ 9223372036854775807) : Calls Tryz.prog 27 #[cfgV c sl po pt ct, .int .i64 kind, .int .i64 index] w fun e w' => e = .returned (.tuple #[.int .i64 (findN c kind index).1, .bool (findN c kind index).2]) ∧ Below w.heap.size w w' := by
  by_cases h0 : index < 0
  · have : findN c kind index = (0, false) := by unfold findN; rw [if_neg (by omega)]
    rw [this]
    exact rfind_neg c kind index sl po pt ct w h0
  · by_cases h67 : kind = 6 ∨ kind = 7
    · exact rfind_ctls c kind index sl po pt ct w hl hf (by omega) hix h67
    · by_cases h15 : 1 ≤ kind ∧ kind ≤ 5
      · exact rfind_points c kind index sl po pt ct w hl hf (by omega) hix h15
      · have : findN c kind index = (0, false) := by
          unfold findN placesN
          rw [if_neg h15, if_neg h67]
          simp
        rw [this]
        exact rfind_none c kind index sl po pt ct w (by omega) (by omega)
end Go.Proofs.YtpocjmlkhophoaaGreatDoor
/- yardref6.Count: how many there are; all older memory stands. -/
namespace Go.Proofs.YtpocjmlkhophoaaGreatDoor
open Go.RowKit Go.Extern.Stop Go.Stop Go.Extern

def cntP (kind : Int) (l : List Pt) (i : Nat) : Bool := ((l.getD i noPt).kind == kind && (decide (1 ≤ kind) && decide (kind ≤ 4))) || (kind == 5 && (l.getD i noPt).kind == 4)
def cntQ (kind : Int) (l : List Ctl) (i : Nat) : Bool := (kind == 6 || kind == 7) && (l.getD i noCtl).kind == kind
theorem cntP_in {kind : Int} (l : List Pt) (h : 1 ≤ kind ∧ kind ≤ 5) (i : Nat) : cntP kind l i = ptIs l (kindK kind) i := by
  unfold cntP ptIs kindK
  by_cases h5 : kind = 5
  · subst h5
    simp
  · have h4 : kind ≤ 4 := by omega
    have e5 : (kind == 5) = false := by simpa using h5
    rw [if_neg h5, e5]
    simp [h.1, h4]
theorem cntP_out {kind : Int} (l : List Pt) (h : ¬ (1 ≤ kind ∧ kind ≤ 5)) (i : Nat) : cntP kind l i = false := by
  unfold cntP
  have e5 : (kind == 5) = false := by simp; omega
  rw [e5]
  by_cases h1 : 1 ≤ kind
  · have : ¬ kind ≤ 4 := by omega
    simp [this]
  · simp [h1]
theorem cntQ_out {kind : Int} (l : List Ctl) (h : ¬ (kind = 6 ∨ kind = 7)) (i : Nat) : cntQ kind l i = false := by
  unfold cntQ
  have e6 : (kind == 6) = false := by simp; omega
  have e7 : (kind == 7) = false := by simp; omega
  rw [e6, e7]
  rfl
theorem cntQ_in {kind : Int} (l : List Ctl) (h : kind = 6 ∨ kind = 7) (i : Nat) : cntQ kind l i = ctlIs l kind i := by
  unfold cntQ ctlIs
  rcases h with rfl | rfl <;> simp
/-- Both loops together. -/
theorem cnt_all (c : Cfg) (kind : Int) : (plc (cntP kind c.points) c.points.length).length + (plc (cntQ kind c.ctls) c.ctls.length).length = (placesN c kind).length := by
  unfold placesN
  by_cases h15 : 1 ≤ kind ∧ kind ≤ 5
  · rw [if_pos h15, plc_false (cntQ kind c.ctls) (cntQ_out c.ctls (by omega)), plc_congr c.points.length (fun j _ => cntP_in c.points h15 j)]
    simp
  · rw [if_neg h15, plc_false (cntP kind c.points) (cntP_out c.points h15)]
    by_cases h67 : kind = 6 ∨ kind = 7
    · rw [if_pos h67, plc_congr c.ctls.length (fun j _ => cntQ_in c.ctls h67 j)]
      simp
    · rw [if_neg h67, plc_false (cntQ kind c.ctls) (cntQ_out c.ctls h67)]
      rfl
theorem add_one (n m : Nat) (h : n + m < 1000000) : Value.int .i64 (wrap64 (((n + m : Nat) : Int) + 1)) = .int .i64 ((n + (m + 1) : Nat) : Int) := by
  congr 1
  unfold wrap64
  omega
set_option maxRecDepth 100000 in
set_option maxHeartbeats 4000000 in
theorem rcount_any (c : Cfg) (kind : Int) (sl po pt ct : Value) (w : World) (hl : ListsAt w c sl po pt ct) (hf : FewC c) : Calls Tryz.prog 29 #[cfgV c sl po pt ct, .int .i64 kind] w fun e w' => e = .returned (.int .i64 ((placesN c kind).length : Int)) ∧ Below w.heap.size w w' := by
  have HB := Lib.hid (below_new w (.cells #[.int .i64 c.own, .int .i64 c.master, .bool c.unsol, .int .i64 c.reply, .int .i64 c.silence, .int .i64 c.retries, .int .i64 c.offline, .int .i64 c.select, .int .i64 c.confirm, .int .i64 c.frag, .int .i64 c.r0, .int .i64 c.r1, .int .i64 c.r2, sl, po, pt, ct] 28))
  have HX := Lib.hid (cfgBox_new w c sl po pt ct)
  have HL := Lib.hid (hl.on HB.out)
  have HF := Lib.hid hf
  obtain ⟨a3, q3, rfl, _⟩ := hl.pt.form
  obtain ⟨a4, q4, rfl, _⟩ := hl.ct.form
  obtain ⟨k13, k14, k15, k16⟩ := HX.out.lists
  have HA := Lib.hid (cnt_all c kind)
  clear hl hf k13 k14 HX
  unfold cfgV
  go_enter Tryz.func29, Tryz.ntmps29
  go_wp2
  generalize w.alloc (.cells #[.int .i64 c.own, .int .i64 c.master, .bool c.unsol, .int .i64 c.reply, .int .i64 c.silence, .int .i64 c.retries, .int .i64 c.offline, .int .i64 c.select, .int .i64 c.confirm, .int .i64 c.frag, .int .i64 c.r0, .int .i64 c.r1, .int .i64 c.r2, sl, po, .slice a3 c.points.length q3, .slice a4 c.ctls.length q4] 28) = w0 at *
  go_loopg [5, 6] c.points.length (fun k s5 s6 wr => ∃ (i n : Nat), i ≤ c.points.length ∧ k = c.points.length - i ∧ s5 = .int .i64 (n : Int) ∧ s6 = .int .i64 (i : Int) ∧ Hid (n = (plc (cntP kind c.points) i).length ∧ wr = w0))
  case atStart => exact ⟨0, 0, Nat.zero_le _, rfl, rfl, rfl, Lib.hid ⟨rfl, rfl⟩⟩
  case round =>
    obtain ⟨i, n, hi, rfl, rfl, rfl, HI⟩ := hrel
    obtain ⟨hn, hw⟩ := HI.out
    subst hw
    have HN := Lib.hid hn
    clear hn HI
    by_cases hlt : i < c.points.length
    · obtain ⟨b, off, rfl, p0, p1, p2, p3, p4, p5, p6, p7⟩ := row8_of HL.out.pt i hlt
      have HK : Hid (cntP kind c.points i = ((c.points[i].kind == kind && (decide (1 ≤ kind) && decide (kind ≤ 4))) || (kind == 5 && c.points[i].kind == 4))) := Lib.hid (by simp [cntP, hlt])
      have HJ := Lib.hid (show i < 1000000 by have := HF.out.2.2.1; omega)
      have HPL := Lib.hid (plc_le (cntP kind c.points) i)
      clear p1 p2 p3 p4 p5 p6 p7
      generalize c.points[i] = y at *
      rcases Bool.eq_false_or_eq_true (cntP kind c.points i) with h0 | h0
      · have HN2 : Hid (n + 1 = (plc (cntP kind c.points) (i + 1)).length) := Lib.hid (by rw [plc_succ, h0, if_pos rfl, List.length_append, HN.out]; rfl)
        have hk := HK.out.symm.trans h0
        have h2 : ((y.kind == kind) = true ∧ 1 ≤ kind ∧ kind ≤ 4) ∨ ((kind == 5) = true ∧ (y.kind == 4) = true) := by
          simp only [Bool.or_eq_true, Bool.and_eq_true, decide_eq_true_eq] at hk
          exact hk
        clear h0 hk HK
        rcases h2 with ⟨e1, e2, e3⟩ | ⟨e1, e2⟩
        · go_wp2
          go_roundg (c.points.length - (i + 1))
          case measure => omega
          case rel => exact ⟨i + 1, n + 1, by omega, rfl, next_i64 n (by have := HN.out; have := HPL.out; have := HJ.out; omega), next_i64 i HJ.out, Lib.hid ⟨HN2.out, rfl⟩⟩
        · obtain rfl : kind = 5 := by simpa using e1
          have e3 : (y.kind == 5) = false := by
            have : y.kind = 4 := by simpa using e2
            simp [this]
          clear e1
          go_wp2
          go_roundg (c.points.length - (i + 1))
          case measure => omega
          case rel => exact ⟨i + 1, n + 1, by omega, rfl, next_i64 n (by have := HN.out; have := HPL.out; have := HJ.out; omega), next_i64 i HJ.out, Lib.hid ⟨HN2.out, rfl⟩⟩
      · have HN2 : Hid (n = (plc (cntP kind c.points) (i + 1)).length) := Lib.hid (by rw [plc_succ, h0, HN.out]; rfl)
        have hk := HK.out.symm.trans h0
        clear h0 HK
        by_cases e5 : kind = 5
        · subst e5
          have e4 : (y.kind == 4) = false := by simpa using hk
          clear hk
          rcases Bool.eq_false_or_eq_true (y.kind == 5) with e1 | e1
          all_goals
            go_wp2
            go_roundg (c.points.length - (i + 1))
            case measure => omega
            case rel => exact ⟨i + 1, n, by omega, rfl, rfl, next_i64 i HJ.out, Lib.hid ⟨HN2.out, rfl⟩⟩
        · have e5' : (kind == 5) = false := by simpa using e5
          rw [e5'] at hk
          simp only [Bool.false_and, Bool.or_false] at hk
          rcases Bool.eq_false_or_eq_true (y.kind == kind) with e1 | e1
          · rw [e1] at hk
            simp only [Bool.true_and] at hk
            by_cases e2 : 1 ≤ kind
            · have e3 : ¬ kind ≤ 4 := by
                intro h
                simp [e2, h] at hk
              clear hk
              go_wp2
              go_roundg (c.points.length - (i + 1))
              case measure => omega
              case rel => exact ⟨i + 1, n, by omega, rfl, rfl, next_i64 i HJ.out, Lib.hid ⟨HN2.out, rfl⟩⟩
            · clear hk
              go_wp2
              go_roundg (c.points.length - (i + 1))
              case measure => omega
              case rel => exact ⟨i + 1, n, by omega, rfl, rfl, next_i64 i HJ.out, Lib.hid ⟨HN2.out, rfl⟩⟩
          · clear hk
            go_wp2
            go_roundg (c.points.length - (i + 1))
            case measure => omega
            case rel => exact ⟨i + 1, n, by omega, rfl, rfl, next_i64 i HJ.out, Lib.hid ⟨HN2.out, rfl⟩⟩
    · have hil : i = c.points.length := by omega
      subst hil
      have HPL := Lib.hid (plc_le (cntP kind c.points) c.points.length)
      generalize wr = w0 at *
      clear hlt hi
      go_wp2
      go_loopg [5, 8] c.ctls.length (fun k s5 s8 wr => ∃ (i m : Nat), i ≤ c.ctls.length ∧ k = c.ctls.length - i ∧ s5 = .int .i64 ((n + m : Nat) : Int) ∧ s8 = .int .i64 (i : Int) ∧ Hid (m = (plc (cntQ kind c.ctls) i).length ∧ wr = w0))
      case atStart => exact ⟨0, 0, Nat.zero_le _, rfl, rfl, rfl, Lib.hid ⟨rfl, rfl⟩⟩
      case round =>
        obtain ⟨i, m, hi, rfl, rfl, rfl, HI⟩ := hrel
        obtain ⟨hm, hw⟩ := HI.out
        subst hw
        have HM := Lib.hid hm
        clear hm HI
        have HPM := Lib.hid (plc_le (cntQ kind c.ctls) i)
        by_cases hlt : i < c.ctls.length
        · obtain ⟨b, off, rfl, p0, p1, p2⟩ := row3_of HL.out.ct i hlt
          have HK : Hid (cntQ kind c.ctls i = ((kind == 6 || kind == 7) && c.ctls[i].kind == kind)) := Lib.hid (by simp [cntQ, hlt])
          have HJ := Lib.hid (show i < 1000000 by have := HF.out.2.2.2; omega)
          clear p1 p2
          generalize c.ctls[i] = y at *
          by_cases h67 : kind = 6 ∨ kind = 7
          · have hkk : (kind == 6 || kind == 7) = true := by rcases h67 with rfl | rfl <;> rfl
            rcases Bool.eq_false_or_eq_true (y.kind == kind) with e1 | e1
            · have HN2 : Hid (m + 1 = (plc (cntQ kind c.ctls) (i + 1)).length) := Lib.hid (by rw [plc_succ, HK.out, hkk, e1, HM.out]; simp)
              have hadd := add_one n m (by have := HN.out; have := HPL.out; have := HM.out; have := HPM.out; have := HF.out.2.2.1; have := HF.out.2.2.2; omega)
              clear hkk HK
              generalize hnm : ((n + m : Nat) : Int) = nm at *
              have HNM := Lib.hid hnm
              clear hnm
              rcases h67 with rfl | rfl
              all_goals
                go_wp2
                go_roundg (c.ctls.length - (i + 1))
                case measure => omega
                case rel => exact ⟨i + 1, m + 1, by omega, rfl, hadd, next_i64 i HJ.out, Lib.hid ⟨HN2.out, rfl⟩⟩
            · have HN2 : Hid (m = (plc (cntQ kind c.ctls) (i + 1)).length) := Lib.hid (by rw [plc_succ, HK.out, hkk, e1, HM.out]; simp)
              clear hkk HK
              generalize hnm : ((n + m : Nat) : Int) = nm at *
              have HNM := Lib.hid hnm
              clear hnm
              rcases h67 with rfl | rfl
              all_goals
                go_wp2
                go_roundg (c.ctls.length - (i + 1))
                case measure => omega
                case rel => exact ⟨i + 1, m, by omega, rfl, by rw [HNM.out], next_i64 i HJ.out, Lib.hid ⟨HN2.out, rfl⟩⟩
          · have e6 : (kind == 6) = false := by simp; omega
            have e7 : (kind == 7) = false := by simp; omega
            have HT : Hid (((n + m : Nat) : Int) = ((placesN c kind).length : Int)) := Lib.hid (by
              have h1 := HA.out
              have h2 := HN.out
              have h3 := HM.out
              rw [plc_false (cntQ kind c.ctls) (cntQ_out c.ctls h67)] at h1 h3
              simp at h1 h3
              omega)
            clear h67 HK
            generalize ((n + m : Nat) : Int) = nm at *
            go_wp2
            go_ret
            rw [HT.out]
            exact ⟨rfl, HB.out⟩
        · have HT : Hid (((n + m : Nat) : Int) = ((placesN c kind).length : Int)) := Lib.hid (by
            have h1 := HA.out
            have h2 := HN.out
            have h3 := HM.out
            have h4 : i = c.ctls.length := by omega
            rw [h4] at h3
            omega)
          generalize ((n + m : Nat) : Int) = nm at *
          go_wp2
          go_ret
          rw [HT.out]
          exact ⟨rfl, HB.out⟩
end Go.Proofs.YtpocjmlkhophoaaGreatDoor
