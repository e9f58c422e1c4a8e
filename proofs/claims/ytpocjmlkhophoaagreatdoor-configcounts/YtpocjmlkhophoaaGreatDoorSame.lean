/- yardsame.Err: an error that In has wrapped is the document's own; memory that was there stands. -/
import Derived.Test.YtpocjmlkhophoaaGreatDoorPath
import Derived.BigQuiet
import Derived.IntWalk
import Derived.Deep.RegionWith
namespace Go.Proofs.YtpocjmlkhophoaaGreatDoor
open Go.RowKit Go.Extern.Stop Go.Stop Go.Extern

theorem below_new (w : World) (o : Obj) : Below w.heap.size w (w.alloc o) := (Below.refl _ _).alloc (Nat.le_refl _) _
theorem ErrT.up {w w' : World} (h : ErrT w) (hb : Below w.heap.size w w') : ErrT w' := h.on h.pos hb
theorem stepCells_get : ∀ (l : List (ByteArray × Int)) (i : Nat) (h : i < l.length), (stepCells l)[i * 2]? = some (.string l[i].1) ∧ (stepCells l)[i * 2 + 1]? = some (.int .i64 l[i].2)
  | (_, _) :: _, 0, _ => ⟨rfl, rfl⟩
  | (_, _) :: l, i + 1, h => by
    have := stepCells_get l i (by simpa using h)
    have e : (i + 1) * 2 = i * 2 + 1 + 1 := by omega
    rw [e]
    simpa [stepCells] using this

theorem below_drewN {B : Nat} {a w : World} (h : Below B a w) (n : Nat) : Below B a (w.drewN n) := ⟨h.os, h.tape, h.output, h.size, h.block⟩

/-- A list of steps that the program made, cell by cell. -/
def StepsOwn (w : World) (v : Value) (l : List (ByteArray × Int)) : Prop :=
  ∃ ao cap, v = .slice ao l.length cap ∧ ∀ i (h : i < l.length), ∃ g, ao = some ⟨g, 0, none⟩ ∧ g < w.heap.size ∧ w.cell? ⟨g, i * 2, none⟩ = some (.string l[i].1) ∧ w.cell? ⟨g, i * 2 + 1, none⟩ = some (.int .i64 l[i].2)
theorem StepsOwn.on {w w' : World} {v : Value} {l : List (ByteArray × Int)} (h : StepsOwn w v l) (hb : Below w.heap.size w w') : StepsOwn w' v l := by
  obtain ⟨ao, cap, hv, h⟩ := h
  refine ⟨ao, cap, hv, fun i hi => ?_⟩
  obtain ⟨g, ha, hlt, h0, h1⟩ := h i hi
  exact ⟨g, ha, Nat.lt_of_lt_of_le hlt hb.size, (hb.cell (p := ⟨g, i * 2, none⟩) hlt).trans h0, (hb.cell (p := ⟨g, i * 2 + 1, none⟩) hlt).trans h1⟩
theorem stepsOwn_of {w : World} {base : Nat} {v : Value} {l : List (ByteArray × Int)} (h : w.ownsRow base 101 2 v l.length (stepCells l)) : StepsOwn w v l := by
  rcases h.2 with ⟨hv, h0⟩ | ⟨g, cap, cur, hv, _⟩
  · exact ⟨none, 0, by rw [hv, h0], fun i hi => by omega⟩
  · refine ⟨some ⟨g, 0, none⟩, cap, hv, fun i hi => ?_⟩
    subst hv
    have hgt := stepCells_get l i hi
    have c0 := (h.cellAt (i * 2) (by omega)).trans hgt.1
    exact ⟨g, rfl, lt_of_cell c0, c0, (h.cellAt (i * 2 + 1) (by omega)).trans hgt.2⟩

/-- Path as a list, cell by cell. -/
theorem path_steps (l : List (ByteArray × Int)) (v t : Value) (w : World) (hg : ErrT w) (he : Ends t) (hc : Chain w t l v) (hl : l.length ≤ 100000) :
    Calls Tryz.prog 63 #[v] w fun e w' => (∃ sl, e = .returned sl ∧ StepsOwn w' sl l) ∧ Below w.heap.size w w' :=
  (path_any l v t w hg he hc hl).mono fun _ _ ⟨sl, h1, h2, h3⟩ => ⟨⟨sl, h1, stepsOwn_of h2⟩, h3⟩

theorem stepsOwn_of58 {w : World} {base : Nat} {v : Value} {l : List (ByteArray × Int)} (h : w.ownsRow base 102 2 v l.length (stepCells l)) : StepsOwn w v l := by
  rcases h.2 with ⟨hv, h0⟩ | ⟨g, cap, cur, hv, _⟩
  · exact ⟨none, 0, by rw [hv, h0], fun i hi => by omega⟩
  · refine ⟨some ⟨g, 0, none⟩, cap, hv, fun i hi => ?_⟩
    subst hv
    have hgt := stepCells_get l i hi
    have c0 := (h.cellAt (i * 2) (by omega)).trans hgt.1
    exact ⟨g, rfl, lt_of_cell c0, c0, (h.cellAt (i * 2 + 1) (by omega)).trans hgt.2⟩

theorem ok_false (c : Int) (hc : c ≠ 0) (ao : Option Addr) (n cap : Nat) (w : World) : Calls Tryz.prog 42 #[.agg #[.int .i64 c, .slice ao n cap]] w fun e w' => e = .returned (.bool false) ∧ Below w.heap.size w w' := by
  have hq : (c == 0) = false := by simpa using hc
  clear hc
  go_enter Tryz.func42, Tryz.ntmps42
  go_wp2
  go_ret
  exact ⟨rfl, below_new _ _⟩
theorem ok_true (w : World) : Calls Tryz.prog 42 #[.agg #[.int .i64 0, .slice none 0 0]] w fun e w' => e = .returned (.bool true) ∧ Below w.heap.size w w' := by
  go_enter Tryz.func42, Tryz.ntmps42
  go_wp2
  go_ret
  exact ⟨rfl, below_new _ _⟩

set_option maxRecDepth 100000 in
set_option maxHeartbeats 4000000 in
theorem same_some (c : Int) (hc : c ≠ 0) (v sl : Value) (l : List (ByteArray × Int)) (w : World) (hg : ErrT w) (hch : Chain w (.iface 32 (.int .i64 c)) l v) (hsl : StepsOwn w sl l) (hlen : l.length ≤ 200) :
    Calls Tryz.prog 19 #[v, .agg #[.int .i64 c, sl]] w fun e w' => e = .returned (.bool true) ∧ Below w.heap.size w w' := by
  have HG := Lib.hid hg
  have HCH := Lib.hid hch
  have HSL := Lib.hid hsl
  obtain ⟨te, ye, rfl⟩ := hch.iface
  obtain ⟨ao, cap, rfl, _⟩ := hsl
  have HC := Lib.hid hc
  have hb0 : Below w.heap.size w (w.alloc (.cells #[.int .i64 c, .slice ao l.length cap] 35)) := below_new _ _
  have HB0 := Lib.hid hb0
  have k0 : (w.alloc (.cells #[.int .i64 c, .slice ao l.length cap] 35)).cell? ⟨w.heap.size, 0, none⟩ = some (.int .i64 c) := by simp
  have k1 : (w.alloc (.cells #[.int .i64 c, .slice ao l.length cap] 35)).cell? ⟨w.heap.size, 1, none⟩ = some (.slice ao l.length cap) := by simp
  have hsz : (w.alloc (.cells #[.int .i64 c, .slice ao l.length cap] 35)).heap.size = w.heap.size + 1 := by simp
  have HZ := Lib.hid hsz
  clear hg hch hc hb0 hsz
  go_enter Tryz.func19, Tryz.ntmps19
  go_wp2
  generalize w.alloc (.cells #[.int .i64 c, .slice ao l.length cap] 35) = w0 at *
  have hlt0 : w.heap.size < w0.heap.size := by rw [HZ.out]; exact Nat.lt_succ_self _
  have HL0 := Lib.hid hlt0
  have HK := Lib.hid (And.intro k0 k1)
  go_region_with (first | (go_at_call 42; refine (ok_false c HC.out _ _ _ _).mono ?_; rintro e w1 ⟨rfl, hb1⟩; have HB1 : Hid (Below w0.heap.size w0 w1) := Lib.hid ((Below.refl w0.heap.size w0).drew.trans hb1); have q0 : w1.cell? ⟨w.heap.size, 0, none⟩ = some (.int .i64 c) := (HB1.out.cell (p := ⟨w.heap.size, 0, none⟩) HL0.out).trans HK.out.1; clear hb1) | (go_at_call 33; refine (of_code l _ c _ ((HG.out.up HB0.out).up HB1.out) ((HCH.out.on HB0.out).on HB1.out)).mono ?_; rintro e w2 ⟨rfl, hb2⟩; have HB2 : Hid (Below w0.heap.size w0 w2) := Lib.hid (HB1.out.trans (hb2.mono HB1.out.size)); have r0 : w2.cell? ⟨w.heap.size, 0, none⟩ = some (.int .i64 c) := (HB2.out.cell (p := ⟨w.heap.size, 0, none⟩) HL0.out).trans HK.out.1; clear hb2))
  all_goals
    clear q0 r0
    go_wp2_with fail
    refine (path_steps l _ _ _ ((HG.out.up HB0.out).up HB2.out) (.inr ⟨32, _, rfl, rfl⟩) ((HCH.out.on HB0.out).on HB2.out) (by omega)).mono ?_
    rintro e w3 ⟨⟨pv, rfl, hpv⟩, hb3⟩
    have HB3 : Hid (Below w0.heap.size w0 w3) := Lib.hid (HB2.out.trans (hb3.mono HB2.out.size))
    have HP := Lib.hid hpv
    have s1 : w3.cell? ⟨w.heap.size, 1, none⟩ = some (.slice ao l.length cap) := (HB3.out.cell (p := ⟨w.heap.size, 1, none⟩) HL0.out).trans HK.out.2
    obtain ⟨ap, capp, rfl, _⟩ := hpv
    clear hb3
    go_wp2
    go_loopg [6] l.length (fun k s6 wr => ∃ i : Nat, i ≤ l.length ∧ k = l.length - i ∧ s6 = .int .i64 i ∧ Hid (Below w3.heap.size w3 wr))
    case atStart => exact ⟨0, Nat.zero_le _, rfl, rfl, Lib.hid (Below.refl _ _)⟩
    case round =>
      obtain ⟨i, hi, rfl, rfl, hbr⟩ := hrel
      have HB4 : Hid (Below w0.heap.size w0 wr) := Lib.hid (HB3.out.trans (hbr.out.mono HB3.out.size))
      by_cases hlt : i < l.length
      · obtain ⟨ap', capp', hp1', hpc⟩ := HP.out.on hbr.out
        obtain ⟨ao', cap', hq1', hqc⟩ := (HSL.out.on HB0.out).on HB4.out
        obtain ⟨gp, hgp, _, p0, p1⟩ := hpc i hlt
        obtain ⟨gq, hgq, _, r0, r1⟩ := hqc i hlt
        simp only [Value.slice.injEq] at hp1' hq1'
        obtain ⟨rfl, hh1, rfl⟩ := hp1'
        obtain ⟨rfl, hh2, rfl⟩ := hq1'
        subst hgp
        subst hgq
        have s2 : wr.cell? ⟨w.heap.size, 1, none⟩ = some (.slice (some ⟨gq, 0, none⟩) l.length cap) := (HB4.out.cell (p := ⟨w.heap.size, 1, none⟩) HL0.out).trans HK.out.2
        have hi0 : (0 : Int) ≤ (i : Int) := by omega
        have hil : (i : Int) < (l.length : Int) := by omega
        clear hpc hqc s1 k0 k1 hlt0 hh1 hh2
        go_wp2_with fail
        go_quiet (fail)
        have HB8 : Hid (Below w3.heap.size w3 (wr.drewN nq)) := Lib.hid (below_drewN hbr.out nq)
        go_wp2
        go_roundg (l.length - (i + 1))
        case measure => omega
        case rel => exact ⟨i + 1, by omega, rfl, by go_num, HB8⟩
      · clear s1 k0 k1 hlt0
        go_wp2
        go_ret
        exact ⟨rfl, HB0.out.trans (HB4.out.mono HB0.out.size)⟩
set_option maxRecDepth 100000 in
set_option maxHeartbeats 4000000 in
theorem same_none (w : World) (hg : ErrT w) : Calls Tryz.prog 19 #[.nilIface, .agg #[.int .i64 0, .slice none 0 0]] w fun e w' => e = .returned (.bool true) ∧ Below w.heap.size w w' := by
  have HG := Lib.hid hg
  have hb0 : Below w.heap.size w (w.alloc (.cells #[.int .i64 0, .slice none 0 0] 35)) := below_new _ _
  have HB0 := Lib.hid hb0
  have k0 : (w.alloc (.cells #[.int .i64 0, .slice none 0 0] 35)).cell? ⟨w.heap.size, 0, none⟩ = some (.int .i64 0) := by simp
  have k1 : (w.alloc (.cells #[.int .i64 0, .slice none 0 0] 35)).cell? ⟨w.heap.size, 1, none⟩ = some (.slice none 0 0) := by simp
  have hsz : (w.alloc (.cells #[.int .i64 0, .slice none 0 0] 35)).heap.size = w.heap.size + 1 := by simp
  have HZ := Lib.hid hsz
  clear hg hb0 hsz
  go_enter Tryz.func19, Tryz.ntmps19
  go_wp2
  generalize w.alloc (.cells #[.int .i64 0, .slice none 0 0] 35) = w0 at *
  have hlt0 : w.heap.size < w0.heap.size := by rw [HZ.out]; exact Nat.lt_succ_self _
  have HL0 := Lib.hid hlt0
  have HK := Lib.hid (And.intro k0 k1)
  go_region_with (first | (go_at_call 42; refine (ok_true _).mono ?_; rintro e w1 ⟨rfl, hb1⟩; have HB1 : Hid (Below w0.heap.size w0 w1) := Lib.hid ((Below.refl w0.heap.size w0).drew.trans hb1); have q0 : w1.cell? ⟨w.heap.size, 0, none⟩ = some (.int .i64 0) := (HB1.out.cell (p := ⟨w.heap.size, 0, none⟩) HL0.out).trans HK.out.1; clear hb1) | (go_at_call 33; refine (of_nil _).mono ?_; rintro e w2 ⟨rfl, hb2⟩; have HB2 : Hid (Below w0.heap.size w0 w2) := Lib.hid (HB1.out.trans (hb2.mono HB1.out.size)); have r0 : w2.cell? ⟨w.heap.size, 0, none⟩ = some (.int .i64 0) := (HB2.out.cell (p := ⟨w.heap.size, 0, none⟩) HL0.out).trans HK.out.1; clear hb2))
  all_goals
    clear q0 r0
    go_wp2_with fail
    refine (path_steps [] _ .nilIface _ ((HG.out.up HB0.out).up HB2.out) (.inl rfl) rfl (by simp)).mono ?_
    rintro e w3 ⟨⟨pv, rfl, hpv⟩, hb3⟩
    have HB3 : Hid (Below w0.heap.size w0 w3) := Lib.hid (HB2.out.trans (hb3.mono HB2.out.size))
    have s1 : w3.cell? ⟨w.heap.size, 1, none⟩ = some (.slice none 0 0) := (HB3.out.cell (p := ⟨w.heap.size, 1, none⟩) HL0.out).trans HK.out.2
    obtain ⟨ap, capp, rfl, _⟩ := hpv
    clear hb3
    rw [List.length_nil]
    go_wp2
    refine wp_loop_rounds 1 ?_
    rw [rounds_succ]
    go_wp2
    go_ret
    exact ⟨rfl, HB0.out.trans (HB3.out.mono HB0.out.size)⟩

end Go.Proofs.YtpocjmlkhophoaaGreatDoor
