/- yardlaw1.FailMade answers true for every two codes and every list of steps; memory that was there stands. -/
import Derived.Test.YtcdjiejpccakaaaDoorSame
namespace Go.Proofs.YtcdjiejpccakaaaDoor
open Go.RowKit Go.Extern.Stop Go.Stop Go.Extern

set_option maxRecDepth 100000 in
set_option maxHeartbeats 4000000 in
theorem same_none (w : World) (hg : Ready w) : Calls Tryd.prog 12 #[.nilIface, .agg #[.int .i64 0, .slice none 0 0]] w fun e w' => e = .returned (.bool true) ∧ Below w.heap.size w w' := by
  have HG := Lib.hid hg
  have hb0 : Below w.heap.size w (w.alloc (.cells #[.int .i64 0, .slice none 0 0] 32)) := below_new _ _
  have HB0 := Lib.hid hb0
  have k0 : (w.alloc (.cells #[.int .i64 0, .slice none 0 0] 32)).cell? ⟨w.heap.size, 0, none⟩ = some (.int .i64 0) := by simp
  have k1 : (w.alloc (.cells #[.int .i64 0, .slice none 0 0] 32)).cell? ⟨w.heap.size, 1, none⟩ = some (.slice none 0 0) := by simp
  have hsz : (w.alloc (.cells #[.int .i64 0, .slice none 0 0] 32)).heap.size = w.heap.size + 1 := by simp
  have HZ := Lib.hid hsz
  clear hg hb0 hsz
  go_enter Tryd.func12, Tryd.ntmps12
  go_wp2
  generalize w.alloc (.cells #[.int .i64 0, .slice none 0 0] 32) = w0 at *
  have hlt0 : w.heap.size < w0.heap.size := by rw [HZ.out]; exact Nat.lt_succ_self _
  have HL0 := Lib.hid hlt0
  have HK := Lib.hid (And.intro k0 k1)
  go_region_with (first | (go_at_call 25; refine (ok_true _).mono ?_; rintro e w1 ⟨rfl, hb1⟩; have HB1 : Hid (Below w0.heap.size w0 w1) := Lib.hid ((Below.refl w0.heap.size w0).drew.trans hb1); have q0 : w1.cell? ⟨w.heap.size, 0, none⟩ = some (.int .i64 0) := (HB1.out.cell (p := ⟨w.heap.size, 0, none⟩) HL0.out).trans HK.out.1; clear hb1) | (go_at_call 21; refine (of_nil _).mono ?_; rintro e w2 ⟨rfl, hb2⟩; have HB2 : Hid (Below w0.heap.size w0 w2) := Lib.hid (HB1.out.trans (hb2.mono HB1.out.size)); have r0 : w2.cell? ⟨w.heap.size, 0, none⟩ = some (.int .i64 0) := (HB2.out.cell (p := ⟨w.heap.size, 0, none⟩) HL0.out).trans HK.out.1; clear hb2))
  all_goals
    clear q0 r0
    go_wp2_with fail
    refine (path_steps [] _ .nilIface _ ((HG.out.on HB0.out).on HB2.out).1 (.inl rfl) rfl (by simp)).mono ?_
    rintro e w3 ⟨⟨pv, rfl, hpv⟩, hb3⟩
    have HB3 : Hid (Below w0.heap.size w0 w3) := Lib.hid (HB2.out.trans (hb3.mono HB2.out.size))
    have s1 : w3.cell? ⟨w.heap.size, 1, none⟩ = some (.slice none 0 0) := (HB3.out.cell (p := ⟨w.heap.size, 1, none⟩) HL0.out).trans HK.out.2
    obtain ⟨ap, capp, rfl, _⟩ := hpv
    clear hb3
    rw [List.length_nil]
    go_wp2
    refine wp_loop_rounds 1 ?_
    rw [rounds_succ]
    go_wp2
    go_ret
    exact ⟨rfl, HB0.out.trans (HB3.out.mono HB0.out.size)⟩

set_option maxRecDepth 100000 in
set_option maxHeartbeats 4000000 in
theorem madelaw_any (c d : Int) (v : Value) (l : List (ByteArray × Int)) (w : World) (hs : StepsAt w v l) (hg : Ready w) :
    Calls Tryd.prog 3 #[.int .i64 c, v, .int .i64 d] w fun e w' => e = .returned (.bool true) ∧ Below w.heap.size w w' := by
  have HS := Lib.hid hs
  have HG := Lib.hid hg
  obtain ⟨ao, cap, rfl, hl, hx, hcell⟩ := hs
  clear hg hx hcell hl
  go_enter Tryd.func3, Tryd.ntmps3
  go_wp2_with fail
  refine (first_any _ HG.out).mono ?_
  rintro e w1 ⟨rfl, hb⟩
  have HB := Lib.hid hb
  clear hb
  go_wp2_with fail
  refine (few_any _ l _ (HS.out.on HB.out)).mono ?_
  rintro e w2 ⟨rfl, rfl⟩
  cases hfew : fewB l with
  | false =>
    clear hfew
    go_wp2_with fail
    refine (first_any _ (HG.out.on HB.out)).mono ?_
    rintro e w2 ⟨rfl, hb⟩
    have HB2 := Lib.hid (HB.out.trans (hb.mono HB.out.size))
    clear hb
    go_wp2
    go_ret
    exact ⟨rfl, HB2.out⟩
  | true =>
    have hlen := (short_of_few HS.out hfew).2.1
    clear hfew
    by_cases hc0 : c = 0
    · subst hc0
      go_wp2_with fail
      refine (made_none _ l _ (HS.out.on HB.out) hlen).mono ?_
      rintro e w2 ⟨rfl, hb⟩
      have HB2 : Hid (Below w.heap.size w w2) := Lib.hid (HB.out.trans (hb.mono HB.out.size))
      clear hb
      go_wp2_with fail
      refine (first_any _ (HG.out.on HB2.out)).mono ?_
      rintro e w3 ⟨rfl, hb⟩
      have HB3 : Hid (Below w.heap.size w w3) := Lib.hid (HB2.out.trans (hb.mono HB2.out.size))
      clear hb
      go_wp2_with fail
      refine (want_none _ l _ (HS.out.on HB3.out)).mono ?_
      rintro e w4 ⟨rfl, hb⟩
      have HB4 : Hid (Below w.heap.size w w4) := Lib.hid (HB3.out.trans (hb.mono HB3.out.size))
      clear hb
      go_wp2_with fail
      refine (same_none _ (HG.out.on HB4.out)).mono ?_
      rintro e w5 ⟨rfl, hb⟩
      have HB5 : Hid (Below w.heap.size w w5) := Lib.hid (HB4.out.trans (hb.mono HB4.out.size))
      clear hb
      go_wp2_with fail
      refine (fis_nil _ _).mono ?_
      rintro e w6 ⟨rfl, hb⟩
      have HB6 : Hid (Below w.heap.size w w6) := Lib.hid (HB5.out.trans (hb.mono HB5.out.size))
      clear hb
      by_cases hd : d = 0
      · subst hd
        go_wp2
        go_ret
        exact ⟨rfl, HB6.out⟩
      · have q1 : (d == 0) = false := by simpa using hd
        have q2 : ((0 : Int) == d) = false := by simpa using (fun e : (0 : Int) = d => hd e.symm)
        rw [q1]
        clear hd q1
        go_wp2
        go_ret
        exact ⟨rfl, HB6.out⟩
    · have hq : (c == 0) = false := by simpa using hc0
      go_wp2_with fail
      refine (made_some c hc0 _ l _ (HS.out.on HB.out) hlen).mono ?_
      rintro e w2 ⟨mv, rfl, hch, hb⟩
      have HB2 : Hid (Below w.heap.size w w2) := Lib.hid (HB.out.trans (hb.mono HB.out.size))
      obtain ⟨te, ye, he⟩ := hch.iface
      subst he
      have HC := Lib.hid hch
      clear hb hch
      go_wp2_with fail
      refine (first_any _ (HG.out.on HB2.out)).mono ?_
      rintro e w3 ⟨rfl, hb⟩
      have HB3 : Hid (Below w.heap.size w w3) := Lib.hid (HB2.out.trans (hb.mono HB2.out.size))
      have HC3 := Lib.hid (HC.out.on hb)
      clear hb HC
      go_wp2_with fail
      refine (want_some c hc0 _ l _ (HS.out.on HB3.out) hlen).mono ?_
      rintro e w4 ⟨⟨sl, base, rfl, hown⟩, hb⟩
      have HB4 : Hid (Below w.heap.size w w4) := Lib.hid (HB3.out.trans (hb.mono HB3.out.size))
      have HC4 := Lib.hid (HC3.out.on hb)
      have HO : Hid (StepsOwn w4 sl l.reverse) := Lib.hid (stepsOwn_of58 (by rw [List.length_reverse]; exact hown))
      clear hb HC3 hown
      go_wp2_with fail
      refine (same_some c hc0 _ sl l.reverse _ (HG.out.on HB4.out) HC4.out HO.out (by rw [List.length_reverse]; exact hlen)).mono ?_
      rintro e w5 ⟨rfl, hb⟩
      have HB5 : Hid (Below w.heap.size w w5) := Lib.hid (HB4.out.trans (hb.mono HB4.out.size))
      have HC5 := Lib.hid (HC4.out.on hb)
      clear hb HC4
      go_wp2_with fail
      refine (fis_code _ _ c d _ HC5.out).mono ?_
      rintro e w6 ⟨rfl, hb⟩
      have HB6 : Hid (Below w.heap.size w w6) := Lib.hid (HB5.out.trans (hb.mono HB5.out.size))
      clear hb HC5
      go_wp2
      go_ret
      exact ⟨rfl, HB6.out⟩
end Go.Proofs.YtcdjiejpccakaaaDoor
