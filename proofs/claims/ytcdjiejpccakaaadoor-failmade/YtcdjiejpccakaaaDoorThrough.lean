/- yardlaw1.FailThrough answers true for every code, list of steps and wrap; memory that was there stands. -/
import Derived.Test.YtcdjiejpccakaaaDoorMade
import Derived.BigQuiet
import Derived.IntWalk
namespace Go.Proofs.YtcdjiejpccakaaaDoor
open Go.RowKit Go.Extern.Stop Go.Stop Go.Extern

theorem below_drewN {B : Nat} {a w : World} (h : Below B a w) (n : Nat) : Below B a (w.drewN n) := ⟨h.os, h.tape, h.output, h.size, h.block⟩

/-- A list of steps that the program made, cell by cell. -/
def StepsOwn (w : World) (v : Value) (l : List (ByteArray × Int)) : Prop :=
  ∃ ao cap, v = .slice ao l.length cap ∧ ∀ i (h : i < l.length), ∃ g, ao = some ⟨g, 0, none⟩ ∧ g < w.heap.size ∧ w.cell? ⟨g, i * 2, none⟩ = some (.string l[i].1) ∧ w.cell? ⟨g, i * 2 + 1, none⟩ = some (.int .i64 l[i].2)
theorem StepsOwn.on {w w' : World} {v : Value} {l : List (ByteArray × Int)} (h : StepsOwn w v l) (hb : Below w.heap.size w w') : StepsOwn w' v l := by
  obtain ⟨ao, cap, hv, h⟩ := h
  refine ⟨ao, cap, hv, fun i hi => ?_⟩
  obtain ⟨g, ha, hlt, h0, h1⟩ := h i hi
  exact ⟨g, ha, Nat.lt_of_lt_of_le hlt hb.size, (hb.cell (p := ⟨g, i * 2, none⟩) hlt).trans h0, (hb.cell (p := ⟨g, i * 2 + 1, none⟩) hlt).trans h1⟩
theorem stepsOwn_of {w : World} {base : Nat} {v : Value} {l : List (ByteArray × Int)} (h : w.ownsRow base 50 2 v l.length (stepCells l)) : StepsOwn w v l := by
  rcases h.2 with ⟨hv, h0⟩ | ⟨g, cap, cur, hv, _⟩
  · exact ⟨none, 0, by rw [hv, h0], fun i hi => by omega⟩
  · refine ⟨some ⟨g, 0, none⟩, cap, hv, fun i hi => ?_⟩
    subst hv
    have hgt := stepCells_get l i hi
    have c0 := (h.cellAt (i * 2) (by omega)).trans hgt.1
    exact ⟨g, rfl, lt_of_cell c0, c0, (h.cellAt (i * 2 + 1) (by omega)).trans hgt.2⟩

/-- Path as a list, cell by cell. -/
theorem path_steps (l : List (ByteArray × Int)) (v t : Value) (w : World) (hg : ErrT w) (he : Ends t) (hc : Chain w t l v) (hl : l.length ≤ 100000) :
    Calls Tryd.prog 20 #[v] w fun e w' => (∃ sl, e = .returned sl ∧ StepsOwn w' sl l) ∧ Below w.heap.size w w' :=
  (path_any l v t w hg he hc hl).mono fun _ _ ⟨sl, h1, h2, h3⟩ => ⟨⟨sl, h1, stepsOwn_of h2⟩, h3⟩

set_option maxRecDepth 100000 in
set_option maxHeartbeats 2000000 in
/-- .. where the bounds of the law hold. -/
theorem through_in (c : Int) (v : Value) (l : List (ByteArray × Int)) (s : ByteArray) (p : Int) (w : World) (hs : StepsAt w v l) (hg : Ready w) (hc0 : c ≠ 0) (hfew : fewB l = true) (hsz : s.size ≤ 1000) :
    Calls Tryd.prog 5 #[.int .i64 c, v, .string s, .int .i64 p] w fun e w' => e = .returned (.bool true) ∧ Below w.heap.size w w' := by
  have HS := Lib.hid hs
  have HG := Lib.hid hg
  have HF := Lib.hid hfew
  have hlen := (short_of_few hs hfew).2.1
  obtain ⟨ao, cap, rfl, hl, hx, hcell⟩ := hs
  have hq : (c == 0) = false := by simpa using hc0
  have hsd : decide ((1000 : Int) < (s.size : Int)) = false := by simp; omega
  clear hg hx hcell hl hfew hsz
  go_enter Tryd.func5, Tryd.ntmps5
  go_wp2_with fail
  refine (first_any _ HG.out).mono ?_
  rintro e w1 ⟨rfl, hb⟩
  have HB := Lib.hid hb
  clear hb
  go_wp2_with fail
  refine (few_any _ l _ (HS.out.on HB.out)).mono ?_
  rintro e w2 ⟨rfl, rfl⟩
  rw [HF.out]
  go_wp2_with fail
  refine (made_some c hc0 _ l _ (HS.out.on HB.out) hlen).mono ?_
  rintro e w2 ⟨mv, rfl, hch, hb⟩
  have HB2 : Hid (Below w.heap.size w w2) := Lib.hid (HB.out.trans (hb.mono HB.out.size))
  obtain ⟨te, ye, he⟩ := hch.iface
  subst he
  have HC := Lib.hid hch
  clear hb hch
  go_wp2_with fail
  refine (in_some _ _ _ _ _).mono ?_
  rintro e w3 ⟨rfl, rfl⟩
  have HM : Hid (Chain (w2.alloc (.cells #[.string s, .int .i64 p, .iface te ye] 47)) (.iface 22 (.int .i64 c)) ((s, p) :: l.reverse) (.iface 42 (.pointer (some ⟨w2.heap.size, 0, none⟩)))) := Lib.hid (chain_cons _ _ HC.out)
  go_wp2_with fail
  have hnb : Below (w2.alloc (.cells #[.string s, .int .i64 p, .iface te ye] 47)).heap.size (w2.alloc (.cells #[.string s, .int .i64 p, .iface te ye] 47)) ((w2.alloc (.cells #[.string s, .int .i64 p, .iface te ye] 47)).alloc (.cells #[.pointer none] 42)) := below_new _ _
  refine (is_code _ _ c c _ (HM.out.on hnb)).mono ?_
  rintro e w4 ⟨rfl, rfl⟩
  rw [beq_self_eq_true]
  go_wp2_with fail
  refine (as_fail ⟨w2.heap.size, 0, none⟩ ⟨w2.heap.size + 1, 0, none⟩ (.pointer none) _ ((((HG.out.on HB2.out).1.alloc _).alloc _)) (by simp) (by simp)).mono ?_
  rintro e w5 ⟨rfl, hb, cf⟩
  have hb' : Below (w2.heap.size + 1) ((w2.alloc (.cells #[.string s, .int .i64 p, .iface te ye] 47)).alloc (.cells #[.pointer none] 42)) w5 := hb
  have hsz : (w2.alloc (.cells #[.string s, .int .i64 p, .iface te ye] 47)).heap.size = w2.heap.size + 1 := by simp
  have HBM : Hid (Below (w2.alloc (.cells #[.string s, .int .i64 p, .iface te ye] 47)).heap.size (w2.alloc (.cells #[.string s, .int .i64 p, .iface te ye] 47)) w5) := Lib.hid (hnb.trans (by rw [hsz]; exact hb'))
  have HB5 : Hid (Below w2.heap.size w2 w5) := Lib.hid ((below_new w2 _).trans (HBM.out.mono (by rw [hsz]; omega)))
  have c0 : w5.cell? ⟨w2.heap.size, 0, none⟩ = some (.string s) := (HBM.out.cell (p := ⟨w2.heap.size, 0, none⟩) (by simp)).trans (by simp)
  have c1 : w5.cell? ⟨w2.heap.size, 1, none⟩ = some (.int .i64 p) := (HBM.out.cell (p := ⟨w2.heap.size, 1, none⟩) (by simp)).trans (by simp)
  have c2 : w5.cell? ⟨w2.heap.size, 2, none⟩ = some (.iface te ye) := (HBM.out.cell (p := ⟨w2.heap.size, 2, none⟩) (by simp)).trans (by simp)
  clear hb hb' hsz hnb
  have HM5 : Hid (Chain w5 (.iface 22 (.int .i64 c)) ((s, p) :: l.reverse) (.iface 42 (.pointer (some ⟨w2.heap.size, 0, none⟩)))) := Lib.hid (HM.out.on HBM.out)
  have HC5 : Hid (Chain w5 (.iface 22 (.int .i64 c)) l.reverse (.iface te ye)) := Lib.hid (HC.out.on HB5.out)
  have HG5 : Hid (Ready w5) := Lib.hid ((HG.out.on HB2.out).on HB5.out)
  have HBB : Hid (Below w.heap.size w w5) := Lib.hid (HB2.out.trans (HB5.out.mono HB2.out.size))
  have HF5 : Hid (w5.cell? ⟨w2.heap.size + 1, 0, none⟩ = some (.pointer (some ⟨w2.heap.size, 0, none⟩)) ∧ w5.cell? ⟨w2.heap.size, 2, none⟩ = some (.iface te ye)) := Lib.hid ⟨cf, c2⟩
  clear HM HC HB5 HBM
  go_wp2_with fail
  refine (path_steps _ _ _ _ HG5.out.1 (.inr ⟨22, _, rfl, .inl rfl⟩) HC5.out (by rw [List.length_reverse]; omega)).mono ?_
  rintro e w6 ⟨⟨pv, rfl, hpv⟩, hb⟩
  have HP := Lib.hid hpv
  have HB6 : Hid (Below w5.heap.size w5 w6) := Lib.hid hb
  clear hpv hb
  go_wp2_with fail
  refine (path_steps _ _ _ _ (HG5.out.on HB6.out).1 (.inr ⟨22, _, rfl, .inl rfl⟩) (HM5.out.on HB6.out) (by rw [List.length_cons, List.length_reverse]; omega)).mono ?_
  rintro e w7 ⟨⟨qv, rfl, hqv⟩, hb⟩
  have HB7 : Hid (Below w5.heap.size w5 w7) := Lib.hid (HB6.out.trans (hb.mono HB6.out.size))
  have HP7 := Lib.hid (HP.out.on hb)
  have HQ7 := Lib.hid hqv
  clear hb HP HB6
  obtain ⟨aq, capq, hq1, hqc⟩ := hqv
  obtain ⟨gq, rfl, hgq, q0, q1⟩ := hqc 0 (by simp)
  subst hq1
  obtain ⟨ap, capp, hp1, hpc⟩ := HP7.out
  subst hp1
  rw [List.length_reverse] at *
  simp only [Nat.zero_mul, List.getElem_cons_zero, Nat.zero_add] at q0 q1
  clear hqc hpc
  rw [List.length_cons, List.length_reverse]
  go_wp2_with fail
  go_loopg [14] l.length (fun k s14 wr => ∃ i : Nat, i ≤ l.length ∧ k = l.length - i ∧ s14 = .int .i64 i ∧ Hid (Below w7.heap.size w7 wr))
  case atStart => exact ⟨0, Nat.zero_le _, rfl, rfl, Lib.hid (Below.refl _ _)⟩
  case round =>
    obtain ⟨i, hi, rfl, rfl, hbr⟩ := hrel
    by_cases hlt : i < l.length
    · obtain ⟨ap', capp', hp1', hpc⟩ := HP7.out.on hbr.out
      obtain ⟨aq', capq', hq1', hqc⟩ := HQ7.out.on hbr.out
      obtain ⟨gp, hgp, _, p0, p1⟩ := hpc i (by rw [List.length_reverse]; exact hlt)
      obtain ⟨gq', hgq', _, r0, r1⟩ := hqc (i + 1) (by rw [List.length_cons, List.length_reverse]; omega)
      simp only [Value.slice.injEq] at hp1' hq1'
      obtain ⟨rfl, hh1, rfl⟩ := hp1'
      obtain ⟨rfl, hh2, rfl⟩ := hq1'
      clear hh1 hh2
      subst hgp
      obtain rfl : gq = gq' := by cases hgq'; rfl
      simp only [List.getElem_cons_succ] at r0 r1
      have hw : IntKind.i64.wrap ((i : Int) + 1) = (i : Int) + 1 := IntWalk.i64_in _ (by omega)
      have hw0 : (0 : Int) ≤ (i : Int) + 1 := by omega
      have hwn : ((i : Int) + 1).toNat = i + 1 := by omega
      have hi0 : (0 : Int) ≤ (i : Int) := by omega
      have hil : (i : Int) < (l.length : Int) := by omega
      have hil1 : (i : Int) + 1 < (l.length : Int) + 1 := by omega
      clear hpc hqc hgq' q0 q1 cf c0 c1 c2
      go_wp2_with fail
      go_quiet (fail)
      have HB8 : Hid (Below w7.heap.size w7 (wr.drewN nq)) := Lib.hid (below_drewN hbr.out nq)
      clear hw hw0 hwn
      go_wp2
      go_roundg (l.length - (i + 1))
      case measure => omega
      case rel => exact ⟨i + 1, by omega, rfl, by go_num, HB8⟩
    · have HBR : Hid (Below w5.heap.size w5 wr) := Lib.hid (HB7.out.trans (hbr.out.mono HB7.out.size))
      clear q0 q1 cf c0 c1 c2 hbr
      go_wp2_with fail
      refine (first_any _ (HG5.out.on HBR.out)).mono ?_
      rintro e w8 ⟨rfl, hb⟩
      have HB8 : Hid (Below w5.heap.size w5 w8) := Lib.hid (HBR.out.trans (hb.mono HBR.out.size))
      clear hb HBR
      go_wp2_with fail
      refine (of_code _ _ c _ (HG5.out.on HB8.out).1 (HM5.out.on HB8.out)).mono ?_
      rintro e w9 ⟨rfl, hb⟩
      have HB9 : Hid (Below w5.heap.size w5 w9) := Lib.hid (HB8.out.trans (hb.mono HB8.out.size))
      have cf : w9.cell? ⟨w2.heap.size + 1, 0, none⟩ = some (.pointer (some ⟨w2.heap.size, 0, none⟩)) := (HB9.out.cell (p := ⟨w2.heap.size + 1, 0, none⟩) (lt_of_cell HF5.out.1)).trans HF5.out.1
      have c2 : w9.cell? ⟨w2.heap.size, 2, none⟩ = some (.iface te ye) := (HB9.out.cell (p := ⟨w2.heap.size, 2, none⟩) (lt_of_cell HF5.out.2)).trans HF5.out.2
      clear hb HB8
      go_wp2_with fail
      refine (unwrap_any _ _ _ c2).mono ?_
      rintro e w10 ⟨rfl, rfl⟩
      go_wp2_with fail
      refine (of_code _ _ c _ (HG5.out.on HB9.out).1 (HC5.out.on HB9.out)).mono ?_
      rintro e w10 ⟨rfl, hb⟩
      have HB10 : Hid (Below w5.heap.size w5 w10) := Lib.hid (HB9.out.trans (hb.mono HB9.out.size))
      clear hb HB9
      go_wp2_with fail
      refine (fis_code _ _ c c _ (HM5.out.on HB10.out)).mono ?_
      rintro e w11 ⟨rfl, hb⟩
      have HB11 : Hid (Below w.heap.size w w11) := Lib.hid (HBB.out.trans ((HB10.out.trans (hb.mono HB10.out.size)).mono HBB.out.size))
      clear hb HB10
      rw [beq_self_eq_true]
      go_wp2
      go_ret
      exact ⟨rfl, HB11.out⟩

set_option maxRecDepth 100000 in
set_option maxHeartbeats 2000000 in
/-- .. where the bounds of the law do not hold. -/
theorem through_out (c : Int) (v : Value) (l : List (ByteArray × Int)) (s : ByteArray) (p : Int) (w : World) (hs : StepsAt w v l) (hg : Ready w) (h : c = 0 ∨ fewB l = false ∨ 1000 < s.size) :
    Calls Tryd.prog 5 #[.int .i64 c, v, .string s, .int .i64 p] w fun e w' => e = .returned (.bool true) ∧ Below w.heap.size w w' := by
  have HS := Lib.hid hs
  have HG := Lib.hid hg
  have HH := Lib.hid h
  obtain ⟨ao, cap, rfl, hl, hx, hcell⟩ := hs
  clear hg hx hcell hl h
  go_enter Tryd.func5, Tryd.ntmps5
  go_wp2_with fail
  refine (first_any _ HG.out).mono ?_
  rintro e w1 ⟨rfl, hb⟩
  have HB := Lib.hid hb
  clear hb
  go_wp2_with fail
  refine (few_any _ l _ (HS.out.on HB.out)).mono ?_
  rintro e w2 ⟨rfl, rfl⟩
  by_cases hf : fewB l = true
  · by_cases hz : s.size ≤ 1000
    · have hc : c = 0 := by
        rcases HH.out with h | h | h
        · exact h
        · rw [hf] at h; cases h
        · omega
      subst hc
      rw [hf]
      clear hf
      go_wp2_with fail
      refine (first_any _ (HG.out.on HB.out)).mono ?_
      rintro e w2 ⟨rfl, hb⟩
      have HB2 := Lib.hid (HB.out.trans (hb.mono HB.out.size))
      clear hb
      go_wp2
      go_ret
      exact ⟨rfl, HB2.out⟩
    · have hsd : decide ((1000 : Int) < (s.size : Int)) = true := by simp; omega
      have hz' : (1000 : Int) < (s.size : Int) := by omega
      rw [hf]
      clear hf hz
      go_wp2_with fail
      refine (first_any _ (HG.out.on HB.out)).mono ?_
      rintro e w2 ⟨rfl, hb⟩
      have HB2 := Lib.hid (HB.out.trans (hb.mono HB.out.size))
      clear hb
      go_wp2
      go_ret
      exact ⟨rfl, HB2.out⟩
  · have hf' : fewB l = false := by simpa using hf
    rw [hf']
    clear hf hf'
    go_wp2_with fail
    refine (first_any _ (HG.out.on HB.out)).mono ?_
    rintro e w2 ⟨rfl, hb⟩
    have HB2 := Lib.hid (HB.out.trans (hb.mono HB.out.size))
    clear hb
    go_wp2
    go_ret
    exact ⟨rfl, HB2.out⟩

theorem through_any (c : Int) (v : Value) (l : List (ByteArray × Int)) (s : ByteArray) (p : Int) (w : World) (hs : StepsAt w v l) (hg : Ready w) :
    Calls Tryd.prog 5 #[.int .i64 c, v, .string s, .int .i64 p] w fun e w' => e = .returned (.bool true) ∧ Below w.heap.size w w' := by
  by_cases hc : c = 0
  · exact through_out c v l s p w hs hg (.inl hc)
  · cases hf : fewB l with
    | false => exact through_out c v l s p w hs hg (.inr (.inl hf))
    | true =>
      by_cases hz : s.size ≤ 1000
      · exact through_in c v l s p w hs hg hc hf hz
      · exact through_out c v l s p w hs hg (.inr (.inr (by omega)))
end Go.Proofs.YtcdjiejpccakaaaDoor
