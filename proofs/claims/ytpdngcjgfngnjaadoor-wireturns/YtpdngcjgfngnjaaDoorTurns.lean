/- yardlaw2.WireTurns answers true for every row of bytes; memory that was there stands. -/
import Derived.Test.YtpdngcjgfngnjaaDoorParts
namespace Go.Proofs.YtpdngcjgfngnjaaDoor
open Go.RowKit Go.Extern.Stop Go.Stop Go.Extern

theorem ret_dec {p : Prop} [Decidable p] (h : p) : Ending.returned (.bool (decide p)) = .returned (.bool true) := by rw [decide_eq_true h]

set_option maxRecDepth 100000 in
set_option maxHeartbeats 1000000 in
theorem turns1a (b0 : UInt8) (v : Value) (z : Int) (w : World) (hv : BytesAt w v [b0]) (hg : ErrT w)
    (hn : ((leNum [b0] : Nat) : Int) = z) (hsg : sgnNum 1 (leNum [b0]) = z - 256) (hz0 : 0 ≤ z) (hz1 : z < 256) (hh : 128 ≤ z) :
    Calls Tryd.prog 6 #[v] w fun e w' => e = .returned (.bool true) ∧ Below w.heap.size w w' := by
  have HN := Lib.hid (And.intro hn hsg)
  clear hn hsg
  obtain ⟨i0, hi0, hz0, hz1, hz2⟩ := info_parts info5
  have HG := Lib.hid hg
  have HV := Lib.hid hv
  obtain ⟨ao, cap, rfl, _⟩ := hv
  have l0 := byte_lt b0
  clear hg
  go_enter Tryd.func6, Tryd.ntmps6
  go_wp2_with fail
  refine (first_any w HG.out).mono ?_
  rintro e w1 ⟨rfl, hb⟩
  have HB0 := Lib.hid hb
  have T0 := Lib.hid (World.ownsRow_nil w1 w.heap.size 5 1)
  clear hb
  go_wp2
  refine wp_loop_rounds 2 ?_
  rw [rounds_succ]
  obtain ⟨b, off, hao, hcell⟩ := (HV.out.on HB0.out).at 0 (by simp)
  cases hao
  simp at hcell
  go_wp2_with (at_builtin; refine wpList_append_lies _ rfl _ _ 22 rfl w.heap.size 5 i0 _ 1 1 Tryd.underlying22 hi0 hz0 hz1 hz2 rfl (by omega) _ 0 (bcells []) rfl (T0.out.alloc _) ⟨w1.heap.size, 0, none⟩ 1 1 [.int .u8 (b0.toNat : Int)] rfl rfl (World.news_of_block (cs := #[.int .u8 (b0.toNat : Int)]) (heap_alloc_new w1 _)) (by simp [Value.oneCell']) (by omega) (by unfold maxLen; omega) (by omega) (by have := HB0.out.size; simp; omega) (w1.heap.size + 1) (by simp) ?_)
  intro g1 cap1 u1 hown hgrow hat hlt
  have T1 : Hid (u1.ownsRow w.heap.size 5 1 (.slice (some ⟨g1, 0, none⟩) 1 cap1) 1 (bcells [b0])) := Lib.hid hown
  have HB1 := Lib.hid ((HB0.out.alloc HB0.out.size _).grown hgrow (by have := HB0.out.size; simp; omega) (fun j hj => (T0.out.lt j hj).1))
  clear hown hgrow hat hlt hcell
  go_wp2
  rw [rounds_succ]
  go_wp2_with fail
  refine (new_reader _ _ u1 (HV.out.on HB1.out) (by simp)).mono ?_
  rintro e wp ⟨p, vp, rfl, hp, hb⟩
  have HBp := Lib.hid (HB1.out.trans (hb.mono HB1.out.size))
  have HP := Lib.hid hp
  have TB := Lib.hid ((bytesAt_own (l := [b0]) T1.out).on hb)
  have hpl : p < wp.heap.size := hp.lt
  have hpb : w.heap.size ≤ p := Nat.le_trans HB1.out.size hp.base
  clear hp hb
  go_wp2_with fail
  refine (new_reader _ _ wp TB.out (by simp)).mono ?_
  rintro e wq ⟨q, vq, rfl, hq, hb⟩
  have HBq := Lib.hid (HBp.out.trans (hb.mono HBp.out.size))
  have HPq := Lib.hid (HP.out.on hb)
  have HQ := Lib.hid hq
  have hql : q < wq.heap.size := hq.lt
  have hqb : w.heap.size ≤ q := Nat.le_trans HBp.out.size hq.base
  clear hq hb
  go_wp2_with fail
  refine (new_reader _ _ wq (HV.out.on HBq.out) (by simp)).mono ?_
  rintro e ws ⟨s, vs, rfl, hs, hb⟩
  have HBs := Lib.hid (HBq.out.trans (hb.mono HBq.out.size))
  have HPs := Lib.hid (HPq.out.on hb)
  have HQs := Lib.hid (HQ.out.on hb)
  have HS := Lib.hid hs
  have hsb : w.heap.size ≤ s := Nat.le_trans HBq.out.size hs.base
  clear hs hb
  go_wp2_with fail
  refine (u_ok _ p vp _ 0 1 ws HPs.out (by decide) (by decide) (by simp)).mono ?_
  rintro e x1 ⟨rfl, _, ho⟩
  have HQ1 := Lib.hid (HQs.out.up ho (fun k e => by subst e; exact hpl))
  have HS1 := Lib.hid (HS.out.up ho (fun k e => by subst e; have := HQ.out.lt; have := HQ.out.base; omega))
  have HBx1 := Lib.hid (HBs.out.trans (ho.below HBs.out.size (fun k e => by subst e; exact hpb)))
  clear ho
  rw [show ((leNum (List.take 1 (List.drop 0 [b0])) : Nat) : Int) = z from HN.out.1]
  go_wp2_with fail
  refine (b_ok _ q vq _ 0 1 x1 HQ1.out (by decide) (by decide) (by simp)).mono ?_
  rintro e x2 ⟨rfl, _, ho⟩
  have HS2 := Lib.hid (HS1.out.up ho (fun k e => by subst e; exact hql))
  have HBx2 := Lib.hid (HBx1.out.trans (ho.below HBx1.out.size (fun k e => by subst e; exact hqb)))
  clear ho
  rw [show ((leNum (List.take 1 (List.drop 0 [b0])).reverse : Nat) : Int) = z from HN.out.1]
  go_wp2_with fail
  refine (i_ok _ s vs _ 0 1 x2 HS2.out (by decide) (by decide) (by simp)).mono ?_
  rintro e x3 ⟨rfl, _, ho⟩
  have HBx3 := Lib.hid (HBx2.out.trans (ho.below HBx2.out.size (fun k e => by subst e; exact hsb)))
  clear ho
  rw [show sgnNum 1 (leNum (List.take 1 (List.drop 0 [b0]))) = z - 256 from HN.out.2]
  go_wp2_with fail
  refine (first_any x3 (HG.out.up HBx3.out)).mono ?_
  rintro e x4 ⟨rfl, hb⟩
  have HBx4 := Lib.hid (HBx3.out.trans (hb.mono HBx3.out.size))
  clear hb
  go_wp2
  go_ret
  exact ⟨ret_dec (by omega), HBx4.out⟩

set_option maxRecDepth 100000 in
set_option maxHeartbeats 1000000 in
theorem turns1b (b0 : UInt8) (v : Value) (z : Int) (w : World) (hv : BytesAt w v [b0]) (hg : ErrT w)
    (hn : ((leNum [b0] : Nat) : Int) = z) (hsg : sgnNum 1 (leNum [b0]) = z) (hz0 : 0 ≤ z) (hz1 : z < 256) (hh : z < 128) :
    Calls Tryd.prog 6 #[v] w fun e w' => e = .returned (.bool true) ∧ Below w.heap.size w w' := by
  have HN := Lib.hid (And.intro hn hsg)
  clear hn hsg
  obtain ⟨i0, hi0, hz0, hz1, hz2⟩ := info_parts info5
  have HG := Lib.hid hg
  have HV := Lib.hid hv
  obtain ⟨ao, cap, rfl, _⟩ := hv
  have l0 := byte_lt b0
  clear hg
  go_enter Tryd.func6, Tryd.ntmps6
  go_wp2_with fail
  refine (first_any w HG.out).mono ?_
  rintro e w1 ⟨rfl, hb⟩
  have HB0 := Lib.hid hb
  have T0 := Lib.hid (World.ownsRow_nil w1 w.heap.size 5 1)
  clear hb
  go_wp2
  refine wp_loop_rounds 2 ?_
  rw [rounds_succ]
  obtain ⟨b, off, hao, hcell⟩ := (HV.out.on HB0.out).at 0 (by simp)
  cases hao
  simp at hcell
  go_wp2_with (at_builtin; refine wpList_append_lies _ rfl _ _ 22 rfl w.heap.size 5 i0 _ 1 1 Tryd.underlying22 hi0 hz0 hz1 hz2 rfl (by omega) _ 0 (bcells []) rfl (T0.out.alloc _) ⟨w1.heap.size, 0, none⟩ 1 1 [.int .u8 (b0.toNat : Int)] rfl rfl (World.news_of_block (cs := #[.int .u8 (b0.toNat : Int)]) (heap_alloc_new w1 _)) (by simp [Value.oneCell']) (by omega) (by unfold maxLen; omega) (by omega) (by have := HB0.out.size; simp; omega) (w1.heap.size + 1) (by simp) ?_)
  intro g1 cap1 u1 hown hgrow hat hlt
  have T1 : Hid (u1.ownsRow w.heap.size 5 1 (.slice (some ⟨g1, 0, none⟩) 1 cap1) 1 (bcells [b0])) := Lib.hid hown
  have HB1 := Lib.hid ((HB0.out.alloc HB0.out.size _).grown hgrow (by have := HB0.out.size; simp; omega) (fun j hj => (T0.out.lt j hj).1))
  clear hown hgrow hat hlt hcell
  go_wp2
  rw [rounds_succ]
  go_wp2_with fail
  refine (new_reader _ _ u1 (HV.out.on HB1.out) (by simp)).mono ?_
  rintro e wp ⟨p, vp, rfl, hp, hb⟩
  have HBp := Lib.hid (HB1.out.trans (hb.mono HB1.out.size))
  have HP := Lib.hid hp
  have TB := Lib.hid ((bytesAt_own (l := [b0]) T1.out).on hb)
  have hpl : p < wp.heap.size := hp.lt
  have hpb : w.heap.size ≤ p := Nat.le_trans HB1.out.size hp.base
  clear hp hb
  go_wp2_with fail
  refine (new_reader _ _ wp TB.out (by simp)).mono ?_
  rintro e wq ⟨q, vq, rfl, hq, hb⟩
  have HBq := Lib.hid (HBp.out.trans (hb.mono HBp.out.size))
  have HPq := Lib.hid (HP.out.on hb)
  have HQ := Lib.hid hq
  have hql : q < wq.heap.size := hq.lt
  have hqb : w.heap.size ≤ q := Nat.le_trans HBp.out.size hq.base
  clear hq hb
  go_wp2_with fail
  refine (new_reader _ _ wq (HV.out.on HBq.out) (by simp)).mono ?_
  rintro e ws ⟨s, vs, rfl, hs, hb⟩
  have HBs := Lib.hid (HBq.out.trans (hb.mono HBq.out.size))
  have HPs := Lib.hid (HPq.out.on hb)
  have HQs := Lib.hid (HQ.out.on hb)
  have HS := Lib.hid hs
  have hsb : w.heap.size ≤ s := Nat.le_trans HBq.out.size hs.base
  clear hs hb
  go_wp2_with fail
  refine (u_ok _ p vp _ 0 1 ws HPs.out (by decide) (by decide) (by simp)).mono ?_
  rintro e x1 ⟨rfl, _, ho⟩
  have HQ1 := Lib.hid (HQs.out.up ho (fun k e => by subst e; exact hpl))
  have HS1 := Lib.hid (HS.out.up ho (fun k e => by subst e; have := HQ.out.lt; have := HQ.out.base; omega))
  have HBx1 := Lib.hid (HBs.out.trans (ho.below HBs.out.size (fun k e => by subst e; exact hpb)))
  clear ho
  rw [show ((leNum (List.take 1 (List.drop 0 [b0])) : Nat) : Int) = z from HN.out.1]
  go_wp2_with fail
  refine (b_ok _ q vq _ 0 1 x1 HQ1.out (by decide) (by decide) (by simp)).mono ?_
  rintro e x2 ⟨rfl, _, ho⟩
  have HS2 := Lib.hid (HS1.out.up ho (fun k e => by subst e; exact hql))
  have HBx2 := Lib.hid (HBx1.out.trans (ho.below HBx1.out.size (fun k e => by subst e; exact hqb)))
  clear ho
  rw [show ((leNum (List.take 1 (List.drop 0 [b0])).reverse : Nat) : Int) = z from HN.out.1]
  go_wp2_with fail
  refine (i_ok _ s vs _ 0 1 x2 HS2.out (by decide) (by decide) (by simp)).mono ?_
  rintro e x3 ⟨rfl, _, ho⟩
  have HBx3 := Lib.hid (HBx2.out.trans (ho.below HBx2.out.size (fun k e => by subst e; exact hsb)))
  clear ho
  rw [show sgnNum 1 (leNum (List.take 1 (List.drop 0 [b0]))) = z from HN.out.2]
  go_wp2_with fail
  refine (first_any x3 (HG.out.up HBx3.out)).mono ?_
  rintro e x4 ⟨rfl, hb⟩
  have HBx4 := Lib.hid (HBx3.out.trans (hb.mono HBx3.out.size))
  clear hb
  go_wp2
  go_ret
  exact ⟨rfl, HBx4.out⟩

theorem turns1 (b0 : UInt8) (v : Value) (w : World) (hv : BytesAt w v [b0]) (hg : ErrT w) :
    Calls Tryd.prog 6 #[v] w fun e w' => e = .returned (.bool true) ∧ Below w.heap.size w w' := by
  have l0 := byte_lt b0
  by_cases hh : 128 ≤ b0.toNat + 256 * (0)
  · exact turns1a b0 v ((b0.toNat + 256 * (0) : Nat) : Int) w hv hg rfl (by unfold sgnNum; rw [show leNum [b0] = b0.toNat + 256 * (0) from rfl, if_pos (by omega)]; rfl) (by omega) (by omega) (by omega)
  · exact turns1b b0 v ((b0.toNat + 256 * (0) : Nat) : Int) w hv hg rfl (by unfold sgnNum; rw [show leNum [b0] = b0.toNat + 256 * (0) from rfl, if_neg (by omega)]) (by omega) (by omega) (by omega)

set_option maxRecDepth 100000 in
set_option maxHeartbeats 1000000 in
theorem turns2a (b0 b1 : UInt8) (v : Value) (z : Int) (w : World) (hv : BytesAt w v [b0, b1]) (hg : ErrT w)
    (hn : ((leNum [b0, b1] : Nat) : Int) = z) (hsg : sgnNum 2 (leNum [b0, b1]) = z - 65536) (hz0 : 0 ≤ z) (hz1 : z < 65536) (hh : 32768 ≤ z) :
    Calls Tryd.prog 6 #[v] w fun e w' => e = .returned (.bool true) ∧ Below w.heap.size w w' := by
  have HN := Lib.hid (And.intro hn hsg)
  clear hn hsg
  obtain ⟨i0, hi0, hz0, hz1, hz2⟩ := info_parts info5
  have HG := Lib.hid hg
  have HV := Lib.hid hv
  obtain ⟨ao, cap, rfl, _⟩ := hv
  have l0 := byte_lt b0
  have l1 := byte_lt b1
  clear hg
  go_enter Tryd.func6, Tryd.ntmps6
  go_wp2_with fail
  refine (first_any w HG.out).mono ?_
  rintro e w1 ⟨rfl, hb⟩
  have HB0 := Lib.hid hb
  have T0 := Lib.hid (World.ownsRow_nil w1 w.heap.size 5 1)
  clear hb
  go_wp2
  refine wp_loop_rounds 3 ?_
  rw [rounds_succ]
  obtain ⟨b, off, hao, hcell⟩ := (HV.out.on HB0.out).at 1 (by simp)
  cases hao
  simp at hcell
  go_wp2_with (at_builtin; refine wpList_append_lies _ rfl _ _ 22 rfl w.heap.size 5 i0 _ 1 1 Tryd.underlying22 hi0 hz0 hz1 hz2 rfl (by omega) _ 0 (bcells []) rfl (T0.out.alloc _) ⟨w1.heap.size, 0, none⟩ 1 1 [.int .u8 (b1.toNat : Int)] rfl rfl (World.news_of_block (cs := #[.int .u8 (b1.toNat : Int)]) (heap_alloc_new w1 _)) (by simp [Value.oneCell']) (by omega) (by unfold maxLen; omega) (by omega) (by have := HB0.out.size; simp; omega) (w1.heap.size + 1) (by simp) ?_)
  intro g1 cap1 u1 hown hgrow hat hlt
  have T1 : Hid (u1.ownsRow w.heap.size 5 1 (.slice (some ⟨g1, 0, none⟩) 1 cap1) 1 (bcells [b1])) := Lib.hid hown
  have HB1 := Lib.hid ((HB0.out.alloc HB0.out.size _).grown hgrow (by have := HB0.out.size; simp; omega) (fun j hj => (T0.out.lt j hj).1))
  clear hown hgrow hat hlt hcell
  go_wp2
  rw [rounds_succ]
  obtain ⟨b, off, hao, hcell⟩ := (HV.out.on HB1.out).at 0 (by simp)
  cases hao
  simp at hcell
  go_wp2_with (at_builtin; refine wpList_append_lies _ rfl _ _ 22 rfl w.heap.size 5 i0 _ 1 1 Tryd.underlying22 hi0 hz0 hz1 hz2 rfl (by omega) _ 1 (bcells [b1]) rfl (T1.out.alloc _) ⟨u1.heap.size, 0, none⟩ 1 1 [.int .u8 (b0.toNat : Int)] rfl rfl (World.news_of_block (cs := #[.int .u8 (b0.toNat : Int)]) (heap_alloc_new u1 _)) (by simp [Value.oneCell']) (by omega) (by unfold maxLen; omega) (by omega) (by have := HB1.out.size; simp; omega) (u1.heap.size + 1) (by simp) ?_)
  intro g2 cap2 u2 hown hgrow hat hlt
  have T2 : Hid (u2.ownsRow w.heap.size 5 1 (.slice (some ⟨g2, 0, none⟩) 2 cap2) 2 (bcells [b1, b0])) := Lib.hid hown
  have HB2 := Lib.hid ((HB1.out.alloc HB1.out.size _).grown hgrow (by have := HB1.out.size; simp; omega) (fun j hj => (T1.out.lt j hj).1))
  clear hown hgrow hat hlt hcell
  go_wp2
  rw [rounds_succ]
  go_wp2_with fail
  refine (new_reader _ _ u2 (HV.out.on HB2.out) (by simp)).mono ?_
  rintro e wp ⟨p, vp, rfl, hp, hb⟩
  have HBp := Lib.hid (HB2.out.trans (hb.mono HB2.out.size))
  have HP := Lib.hid hp
  have TB := Lib.hid ((bytesAt_own (l := [b1, b0]) T2.out).on hb)
  have hpl : p < wp.heap.size := hp.lt
  have hpb : w.heap.size ≤ p := Nat.le_trans HB2.out.size hp.base
  clear hp hb
  go_wp2_with fail
  refine (new_reader _ _ wp TB.out (by simp)).mono ?_
  rintro e wq ⟨q, vq, rfl, hq, hb⟩
  have HBq := Lib.hid (HBp.out.trans (hb.mono HBp.out.size))
  have HPq := Lib.hid (HP.out.on hb)
  have HQ := Lib.hid hq
  have hql : q < wq.heap.size := hq.lt
  have hqb : w.heap.size ≤ q := Nat.le_trans HBp.out.size hq.base
  clear hq hb
  go_wp2_with fail
  refine (new_reader _ _ wq (HV.out.on HBq.out) (by simp)).mono ?_
  rintro e ws ⟨s, vs, rfl, hs, hb⟩
  have HBs := Lib.hid (HBq.out.trans (hb.mono HBq.out.size))
  have HPs := Lib.hid (HPq.out.on hb)
  have HQs := Lib.hid (HQ.out.on hb)
  have HS := Lib.hid hs
  have hsb : w.heap.size ≤ s := Nat.le_trans HBq.out.size hs.base
  clear hs hb
  go_wp2_with fail
  refine (u_ok _ p vp _ 0 2 ws HPs.out (by decide) (by decide) (by simp)).mono ?_
  rintro e x1 ⟨rfl, _, ho⟩
  have HQ1 := Lib.hid (HQs.out.up ho (fun k e => by subst e; exact hpl))
  have HS1 := Lib.hid (HS.out.up ho (fun k e => by subst e; have := HQ.out.lt; have := HQ.out.base; omega))
  have HBx1 := Lib.hid (HBs.out.trans (ho.below HBs.out.size (fun k e => by subst e; exact hpb)))
  clear ho
  rw [show ((leNum (List.take 2 (List.drop 0 [b0, b1])) : Nat) : Int) = z from HN.out.1]
  go_wp2_with fail
  refine (b_ok _ q vq _ 0 2 x1 HQ1.out (by decide) (by decide) (by simp)).mono ?_
  rintro e x2 ⟨rfl, _, ho⟩
  have HS2 := Lib.hid (HS1.out.up ho (fun k e => by subst e; exact hql))
  have HBx2 := Lib.hid (HBx1.out.trans (ho.below HBx1.out.size (fun k e => by subst e; exact hqb)))
  clear ho
  rw [show ((leNum (List.take 2 (List.drop 0 [b1, b0])).reverse : Nat) : Int) = z from HN.out.1]
  go_wp2_with fail
  refine (i_ok _ s vs _ 0 2 x2 HS2.out (by decide) (by decide) (by simp)).mono ?_
  rintro e x3 ⟨rfl, _, ho⟩
  have HBx3 := Lib.hid (HBx2.out.trans (ho.below HBx2.out.size (fun k e => by subst e; exact hsb)))
  clear ho
  rw [show sgnNum 2 (leNum (List.take 2 (List.drop 0 [b0, b1]))) = z - 65536 from HN.out.2]
  go_wp2_with fail
  refine (first_any x3 (HG.out.up HBx3.out)).mono ?_
  rintro e x4 ⟨rfl, hb⟩
  have HBx4 := Lib.hid (HBx3.out.trans (hb.mono HBx3.out.size))
  clear hb
  go_wp2
  go_ret
  exact ⟨ret_dec (by omega), HBx4.out⟩

set_option maxRecDepth 100000 in
set_option maxHeartbeats 1000000 in
theorem turns2b (b0 b1 : UInt8) (v : Value) (z : Int) (w : World) (hv : BytesAt w v [b0, b1]) (hg : ErrT w)
    (hn : ((leNum [b0, b1] : Nat) : Int) = z) (hsg : sgnNum 2 (leNum [b0, b1]) = z) (hz0 : 0 ≤ z) (hz1 : z < 65536) (hh : z < 32768) :
    Calls Tryd.prog 6 #[v] w fun e w' => e = .returned (.bool true) ∧ Below w.heap.size w w' := by
  have HN := Lib.hid (And.intro hn hsg)
  clear hn hsg
  obtain ⟨i0, hi0, hz0, hz1, hz2⟩ := info_parts info5
  have HG := Lib.hid hg
  have HV := Lib.hid hv
  obtain ⟨ao, cap, rfl, _⟩ := hv
  have l0 := byte_lt b0
  have l1 := byte_lt b1
  clear hg
  go_enter Tryd.func6, Tryd.ntmps6
  go_wp2_with fail
  refine (first_any w HG.out).mono ?_
  rintro e w1 ⟨rfl, hb⟩
  have HB0 := Lib.hid hb
  have T0 := Lib.hid (World.ownsRow_nil w1 w.heap.size 5 1)
  clear hb
  go_wp2
  refine wp_loop_rounds 3 ?_
  rw [rounds_succ]
  obtain ⟨b, off, hao, hcell⟩ := (HV.out.on HB0.out).at 1 (by simp)
  cases hao
  simp at hcell
  go_wp2_with (at_builtin; refine wpList_append_lies _ rfl _ _ 22 rfl w.heap.size 5 i0 _ 1 1 Tryd.underlying22 hi0 hz0 hz1 hz2 rfl (by omega) _ 0 (bcells []) rfl (T0.out.alloc _) ⟨w1.heap.size, 0, none⟩ 1 1 [.int .u8 (b1.toNat : Int)] rfl rfl (World.news_of_block (cs := #[.int .u8 (b1.toNat : Int)]) (heap_alloc_new w1 _)) (by simp [Value.oneCell']) (by omega) (by unfold maxLen; omega) (by omega) (by have := HB0.out.size; simp; omega) (w1.heap.size + 1) (by simp) ?_)
  intro g1 cap1 u1 hown hgrow hat hlt
  have T1 : Hid (u1.ownsRow w.heap.size 5 1 (.slice (some ⟨g1, 0, none⟩) 1 cap1) 1 (bcells [b1])) := Lib.hid hown
  have HB1 := Lib.hid ((HB0.out.alloc HB0.out.size _).grown hgrow (by have := HB0.out.size; simp; omega) (fun j hj => (T0.out.lt j hj).1))
  clear hown hgrow hat hlt hcell
  go_wp2
  rw [rounds_succ]
  obtain ⟨b, off, hao, hcell⟩ := (HV.out.on HB1.out).at 0 (by simp)
  cases hao
  simp at hcell
  go_wp2_with (at_builtin; refine wpList_append_lies _ rfl _ _ 22 rfl w.heap.size 5 i0 _ 1 1 Tryd.underlying22 hi0 hz0 hz1 hz2 rfl (by omega) _ 1 (bcells [b1]) rfl (T1.out.alloc _) ⟨u1.heap.size, 0, none⟩ 1 1 [.int .u8 (b0.toNat : Int)] rfl rfl (World.news_of_block (cs := #[.int .u8 (b0.toNat : Int)]) (heap_alloc_new u1 _)) (by simp [Value.oneCell']) (by omega) (by unfold maxLen; omega) (by omega) (by have := HB1.out.size; simp; omega) (u1.heap.size + 1) (by simp) ?_)
  intro g2 cap2 u2 hown hgrow hat hlt
  have T2 : Hid (u2.ownsRow w.heap.size 5 1 (.slice (some ⟨g2, 0, none⟩) 2 cap2) 2 (bcells [b1, b0])) := Lib.hid hown
  have HB2 := Lib.hid ((HB1.out.alloc HB1.out.size _).grown hgrow (by have := HB1.out.size; simp; omega) (fun j hj => (T1.out.lt j hj).1))
  clear hown hgrow hat hlt hcell
  go_wp2
  rw [rounds_succ]
  go_wp2_with fail
  refine (new_reader _ _ u2 (HV.out.on HB2.out) (by simp)).mono ?_
  rintro e wp ⟨p, vp, rfl, hp, hb⟩
  have HBp := Lib.hid (HB2.out.trans (hb.mono HB2.out.size))
  have HP := Lib.hid hp
  have TB := Lib.hid ((bytesAt_own (l := [b1, b0]) T2.out).on hb)
  have hpl : p < wp.heap.size := hp.lt
  have hpb : w.heap.size ≤ p := Nat.le_trans HB2.out.size hp.base
  clear hp hb
  go_wp2_with fail
  refine (new_reader _ _ wp TB.out (by simp)).mono ?_
  rintro e wq ⟨q, vq, rfl, hq, hb⟩
  have HBq := Lib.hid (HBp.out.trans (hb.mono HBp.out.size))
  have HPq := Lib.hid (HP.out.on hb)
  have HQ := Lib.hid hq
  have hql : q < wq.heap.size := hq.lt
  have hqb : w.heap.size ≤ q := Nat.le_trans HBp.out.size hq.base
  clear hq hb
  go_wp2_with fail
  refine (new_reader _ _ wq (HV.out.on HBq.out) (by simp)).mono ?_
  rintro e ws ⟨s, vs, rfl, hs, hb⟩
  have HBs := Lib.hid (HBq.out.trans (hb.mono HBq.out.size))
  have HPs := Lib.hid (HPq.out.on hb)
  have HQs := Lib.hid (HQ.out.on hb)
  have HS := Lib.hid hs
  have hsb : w.heap.size ≤ s := Nat.le_trans HBq.out.size hs.base
  clear hs hb
  go_wp2_with fail
  refine (u_ok _ p vp _ 0 2 ws HPs.out (by decide) (by decide) (by simp)).mono ?_
  rintro e x1 ⟨rfl, _, ho⟩
  have HQ1 := Lib.hid (HQs.out.up ho (fun k e => by subst e; exact hpl))
  have HS1 := Lib.hid (HS.out.up ho (fun k e => by subst e; have := HQ.out.lt; have := HQ.out.base; omega))
  have HBx1 := Lib.hid (HBs.out.trans (ho.below HBs.out.size (fun k e => by subst e; exact hpb)))
  clear ho
  rw [show ((leNum (List.take 2 (List.drop 0 [b0, b1])) : Nat) : Int) = z from HN.out.1]
  go_wp2_with fail
  refine (b_ok _ q vq _ 0 2 x1 HQ1.out (by decide) (by decide) (by simp)).mono ?_
  rintro e x2 ⟨rfl, _, ho⟩
  have HS2 := Lib.hid (HS1.out.up ho (fun k e => by subst e; exact hql))
  have HBx2 := Lib.hid (HBx1.out.trans (ho.below HBx1.out.size (fun k e => by subst e; exact hqb)))
  clear ho
  rw [show ((leNum (List.take 2 (List.drop 0 [b1, b0])).reverse : Nat) : Int) = z from HN.out.1]
  go_wp2_with fail
  refine (i_ok _ s vs _ 0 2 x2 HS2.out (by decide) (by decide) (by simp)).mono ?_
  rintro e x3 ⟨rfl, _, ho⟩
  have HBx3 := Lib.hid (HBx2.out.trans (ho.below HBx2.out.size (fun k e => by subst e; exact hsb)))
  clear ho
  rw [show sgnNum 2 (leNum (List.take 2 (List.drop 0 [b0, b1]))) = z from HN.out.2]
  go_wp2_with fail
  refine (first_any x3 (HG.out.up HBx3.out)).mono ?_
  rintro e x4 ⟨rfl, hb⟩
  have HBx4 := Lib.hid (HBx3.out.trans (hb.mono HBx3.out.size))
  clear hb
  go_wp2
  go_ret
  exact ⟨rfl, HBx4.out⟩

theorem turns2 (b0 b1 : UInt8) (v : Value) (w : World) (hv : BytesAt w v [b0, b1]) (hg : ErrT w) :
    Calls Tryd.prog 6 #[v] w fun e w' => e = .returned (.bool true) ∧ Below w.heap.size w w' := by
  have l0 := byte_lt b0
  have l1 := byte_lt b1
  by_cases hh : 32768 ≤ b0.toNat + 256 * (b1.toNat + 256 * (0))
  · exact turns2a b0 b1 v ((b0.toNat + 256 * (b1.toNat + 256 * (0)) : Nat) : Int) w hv hg rfl (by unfold sgnNum; rw [show leNum [b0, b1] = b0.toNat + 256 * (b1.toNat + 256 * (0)) from rfl, if_pos (by omega)]; rfl) (by omega) (by omega) (by omega)
  · exact turns2b b0 b1 v ((b0.toNat + 256 * (b1.toNat + 256 * (0)) : Nat) : Int) w hv hg rfl (by unfold sgnNum; rw [show leNum [b0, b1] = b0.toNat + 256 * (b1.toNat + 256 * (0)) from rfl, if_neg (by omega)]) (by omega) (by omega) (by omega)

set_option maxRecDepth 100000 in
set_option maxHeartbeats 1000000 in
theorem turns3a (b0 b1 b2 : UInt8) (v : Value) (z : Int) (w : World) (hv : BytesAt w v [b0, b1, b2]) (hg : ErrT w)
    (hn : ((leNum [b0, b1, b2] : Nat) : Int) = z) (hsg : sgnNum 3 (leNum [b0, b1, b2]) = z - 16777216) (hz0 : 0 ≤ z) (hz1 : z < 16777216) (hh : 8388608 ≤ z) :
    Calls Tryd.prog 6 #[v] w fun e w' => e = .returned (.bool true) ∧ Below w.heap.size w w' := by
  have HN := Lib.hid (And.intro hn hsg)
  clear hn hsg
  obtain ⟨i0, hi0, hz0, hz1, hz2⟩ := info_parts info5
  have HG := Lib.hid hg
  have HV := Lib.hid hv
  obtain ⟨ao, cap, rfl, _⟩ := hv
  have l0 := byte_lt b0
  have l1 := byte_lt b1
  have l2 := byte_lt b2
  clear hg
  go_enter Tryd.func6, Tryd.ntmps6
  go_wp2_with fail
  refine (first_any w HG.out).mono ?_
  rintro e w1 ⟨rfl, hb⟩
  have HB0 := Lib.hid hb
  have T0 := Lib.hid (World.ownsRow_nil w1 w.heap.size 5 1)
  clear hb
  go_wp2
  refine wp_loop_rounds 4 ?_
  rw [rounds_succ]
  obtain ⟨b, off, hao, hcell⟩ := (HV.out.on HB0.out).at 2 (by simp)
  cases hao
  simp at hcell
  go_wp2_with (at_builtin; refine wpList_append_lies _ rfl _ _ 22 rfl w.heap.size 5 i0 _ 1 1 Tryd.underlying22 hi0 hz0 hz1 hz2 rfl (by omega) _ 0 (bcells []) rfl (T0.out.alloc _) ⟨w1.heap.size, 0, none⟩ 1 1 [.int .u8 (b2.toNat : Int)] rfl rfl (World.news_of_block (cs := #[.int .u8 (b2.toNat : Int)]) (heap_alloc_new w1 _)) (by simp [Value.oneCell']) (by omega) (by unfold maxLen; omega) (by omega) (by have := HB0.out.size; simp; omega) (w1.heap.size + 1) (by simp) ?_)
  intro g1 cap1 u1 hown hgrow hat hlt
  have T1 : Hid (u1.ownsRow w.heap.size 5 1 (.slice (some ⟨g1, 0, none⟩) 1 cap1) 1 (bcells [b2])) := Lib.hid hown
  have HB1 := Lib.hid ((HB0.out.alloc HB0.out.size _).grown hgrow (by have := HB0.out.size; simp; omega) (fun j hj => (T0.out.lt j hj).1))
  clear hown hgrow hat hlt hcell
  go_wp2
  rw [rounds_succ]
  obtain ⟨b, off, hao, hcell⟩ := (HV.out.on HB1.out).at 1 (by simp)
  cases hao
  simp at hcell
  go_wp2_with (at_builtin; refine wpList_append_lies _ rfl _ _ 22 rfl w.heap.size 5 i0 _ 1 1 Tryd.underlying22 hi0 hz0 hz1 hz2 rfl (by omega) _ 1 (bcells [b2]) rfl (T1.out.alloc _) ⟨u1.heap.size, 0, none⟩ 1 1 [.int .u8 (b1.toNat : Int)] rfl rfl (World.news_of_block (cs := #[.int .u8 (b1.toNat : Int)]) (heap_alloc_new u1 _)) (by simp [Value.oneCell']) (by omega) (by unfold maxLen; omega) (by omega) (by have := HB1.out.size; simp; omega) (u1.heap.size + 1) (by simp) ?_)
  intro g2 cap2 u2 hown hgrow hat hlt
  have T2 : Hid (u2.ownsRow w.heap.size 5 1 (.slice (some ⟨g2, 0, none⟩) 2 cap2) 2 (bcells [b2, b1])) := Lib.hid hown
  have HB2 := Lib.hid ((HB1.out.alloc HB1.out.size _).grown hgrow (by have := HB1.out.size; simp; omega) (fun j hj => (T1.out.lt j hj).1))
  clear hown hgrow hat hlt hcell
  go_wp2
  rw [rounds_succ]
  obtain ⟨b, off, hao, hcell⟩ := (HV.out.on HB2.out).at 0 (by simp)
  cases hao
  simp at hcell
  go_wp2_with (at_builtin; refine wpList_append_lies _ rfl _ _ 22 rfl w.heap.size 5 i0 _ 1 1 Tryd.underlying22 hi0 hz0 hz1 hz2 rfl (by omega) _ 2 (bcells [b2, b1]) rfl (T2.out.alloc _) ⟨u2.heap.size, 0, none⟩ 1 1 [.int .u8 (b0.toNat : Int)] rfl rfl (World.news_of_block (cs := #[.int .u8 (b0.toNat : Int)]) (heap_alloc_new u2 _)) (by simp [Value.oneCell']) (by omega) (by unfold maxLen; omega) (by omega) (by have := HB2.out.size; simp; omega) (u2.heap.size + 1) (by simp) ?_)
  intro g3 cap3 u3 hown hgrow hat hlt
  have T3 : Hid (u3.ownsRow w.heap.size 5 1 (.slice (some ⟨g3, 0, none⟩) 3 cap3) 3 (bcells [b2, b1, b0])) := Lib.hid hown
  have HB3 := Lib.hid ((HB2.out.alloc HB2.out.size _).grown hgrow (by have := HB2.out.size; simp; omega) (fun j hj => (T2.out.lt j hj).1))
  clear hown hgrow hat hlt hcell
  go_wp2
  rw [rounds_succ]
  go_wp2_with fail
  refine (new_reader _ _ u3 (HV.out.on HB3.out) (by simp)).mono ?_
  rintro e wp ⟨p, vp, rfl, hp, hb⟩
  have HBp := Lib.hid (HB3.out.trans (hb.mono HB3.out.size))
  have HP := Lib.hid hp
  have TB := Lib.hid ((bytesAt_own (l := [b2, b1, b0]) T3.out).on hb)
  have hpl : p < wp.heap.size := hp.lt
  have hpb : w.heap.size ≤ p := Nat.le_trans HB3.out.size hp.base
  clear hp hb
  go_wp2_with fail
  refine (new_reader _ _ wp TB.out (by simp)).mono ?_
  rintro e wq ⟨q, vq, rfl, hq, hb⟩
  have HBq := Lib.hid (HBp.out.trans (hb.mono HBp.out.size))
  have HPq := Lib.hid (HP.out.on hb)
  have HQ := Lib.hid hq
  have hql : q < wq.heap.size := hq.lt
  have hqb : w.heap.size ≤ q := Nat.le_trans HBp.out.size hq.base
  clear hq hb
  go_wp2_with fail
  refine (new_reader _ _ wq (HV.out.on HBq.out) (by simp)).mono ?_
  rintro e ws ⟨s, vs, rfl, hs, hb⟩
  have HBs := Lib.hid (HBq.out.trans (hb.mono HBq.out.size))
  have HPs := Lib.hid (HPq.out.on hb)
  have HQs := Lib.hid (HQ.out.on hb)
  have HS := Lib.hid hs
  have hsb : w.heap.size ≤ s := Nat.le_trans HBq.out.size hs.base
  clear hs hb
  go_wp2_with fail
  refine (u_ok _ p vp _ 0 3 ws HPs.out (by decide) (by decide) (by simp)).mono ?_
  rintro e x1 ⟨rfl, _, ho⟩
  have HQ1 := Lib.hid (HQs.out.up ho (fun k e => by subst e; exact hpl))
  have HS1 := Lib.hid (HS.out.up ho (fun k e => by subst e; have := HQ.out.lt; have := HQ.out.base; omega))
  have HBx1 := Lib.hid (HBs.out.trans (ho.below HBs.out.size (fun k e => by subst e; exact hpb)))
  clear ho
  rw [show ((leNum (List.take 3 (List.drop 0 [b0, b1, b2])) : Nat) : Int) = z from HN.out.1]
  go_wp2_with fail
  refine (b_ok _ q vq _ 0 3 x1 HQ1.out (by decide) (by decide) (by simp)).mono ?_
  rintro e x2 ⟨rfl, _, ho⟩
  have HS2 := Lib.hid (HS1.out.up ho (fun k e => by subst e; exact hql))
  have HBx2 := Lib.hid (HBx1.out.trans (ho.below HBx1.out.size (fun k e => by subst e; exact hqb)))
  clear ho
  rw [show ((leNum (List.take 3 (List.drop 0 [b2, b1, b0])).reverse : Nat) : Int) = z from HN.out.1]
  go_wp2_with fail
  refine (i_ok _ s vs _ 0 3 x2 HS2.out (by decide) (by decide) (by simp)).mono ?_
  rintro e x3 ⟨rfl, _, ho⟩
  have HBx3 := Lib.hid (HBx2.out.trans (ho.below HBx2.out.size (fun k e => by subst e; exact hsb)))
  clear ho
  rw [show sgnNum 3 (leNum (List.take 3 (List.drop 0 [b0, b1, b2]))) = z - 16777216 from HN.out.2]
  go_wp2_with fail
  refine (first_any x3 (HG.out.up HBx3.out)).mono ?_
  rintro e x4 ⟨rfl, hb⟩
  have HBx4 := Lib.hid (HBx3.out.trans (hb.mono HBx3.out.size))
  clear hb
  go_wp2
  go_ret
  exact ⟨ret_dec (by omega), HBx4.out⟩

set_option maxRecDepth 100000 in
set_option maxHeartbeats 1000000 in
theorem turns3b (b0 b1 b2 : UInt8) (v : Value) (z : Int) (w : World) (hv : BytesAt w v [b0, b1, b2]) (hg : ErrT w)
    (hn : ((leNum [b0, b1, b2] : Nat) : Int) = z) (hsg : sgnNum 3 (leNum [b0, b1, b2]) = z) (hz0 : 0 ≤ z) (hz1 : z < 16777216) (hh : z < 8388608) :
    Calls Tryd.prog 6 #[v] w fun e w' => e = .returned (.bool true) ∧ Below w.heap.size w w' := by
  have HN := Lib.hid (And.intro hn hsg)
  clear hn hsg
  obtain ⟨i0, hi0, hz0, hz1, hz2⟩ := info_parts info5
  have HG := Lib.hid hg
  have HV := Lib.hid hv
  obtain ⟨ao, cap, rfl, _⟩ := hv
  have l0 := byte_lt b0
  have l1 := byte_lt b1
  have l2 := byte_lt b2
  clear hg
  go_enter Tryd.func6, Tryd.ntmps6
  go_wp2_with fail
  refine (first_any w HG.out).mono ?_
  rintro e w1 ⟨rfl, hb⟩
  have HB0 := Lib.hid hb
  have T0 := Lib.hid (World.ownsRow_nil w1 w.heap.size 5 1)
  clear hb
  go_wp2
  refine wp_loop_rounds 4 ?_
  rw [rounds_succ]
  obtain ⟨b, off, hao, hcell⟩ := (HV.out.on HB0.out).at 2 (by simp)
  cases hao
  simp at hcell
  go_wp2_with (at_builtin; refine wpList_append_lies _ rfl _ _ 22 rfl w.heap.size 5 i0 _ 1 1 Tryd.underlying22 hi0 hz0 hz1 hz2 rfl (by omega) _ 0 (bcells []) rfl (T0.out.alloc _) ⟨w1.heap.size, 0, none⟩ 1 1 [.int .u8 (b2.toNat : Int)] rfl rfl (World.news_of_block (cs := #[.int .u8 (b2.toNat : Int)]) (heap_alloc_new w1 _)) (by simp [Value.oneCell']) (by omega) (by unfold maxLen; omega) (by omega) (by have := HB0.out.size; simp; omega) (w1.heap.size + 1) (by simp) ?_)
  intro g1 cap1 u1 hown hgrow hat hlt
  have T1 : Hid (u1.ownsRow w.heap.size 5 1 (.slice (some ⟨g1, 0, none⟩) 1 cap1) 1 (bcells [b2])) := Lib.hid hown
  have HB1 := Lib.hid ((HB0.out.alloc HB0.out.size _).grown hgrow (by have := HB0.out.size; simp; omega) (fun j hj => (T0.out.lt j hj).1))
  clear hown hgrow hat hlt hcell
  go_wp2
  rw [rounds_succ]
  obtain ⟨b, off, hao, hcell⟩ := (HV.out.on HB1.out).at 1 (by simp)
  cases hao
  simp at hcell
  go_wp2_with (at_builtin; refine wpList_append_lies _ rfl _ _ 22 rfl w.heap.size 5 i0 _ 1 1 Tryd.underlying22 hi0 hz0 hz1 hz2 rfl (by omega) _ 1 (bcells [b2]) rfl (T1.out.alloc _) ⟨u1.heap.size, 0, none⟩ 1 1 [.int .u8 (b1.toNat : Int)] rfl rfl (World.news_of_block (cs := #[.int .u8 (b1.toNat : Int)]) (heap_alloc_new u1 _)) (by simp [Value.oneCell']) (by omega) (by unfold maxLen; omega) (by omega) (by have := HB1.out.size; simp; omega) (u1.heap.size + 1) (by simp) ?_)
  intro g2 cap2 u2 hown hgrow hat hlt
  have T2 : Hid (u2.ownsRow w.heap.size 5 1 (.slice (some ⟨g2, 0, none⟩) 2 cap2) 2 (bcells [b2, b1])) := Lib.hid hown
  have HB2 := Lib.hid ((HB1.out.alloc HB1.out.size _).grown hgrow (by have := HB1.out.size; simp; omega) (fun j hj => (T1.out.lt j hj).1))
  clear hown hgrow hat hlt hcell
  go_wp2
  rw [rounds_succ]
  obtain ⟨b, off, hao, hcell⟩ := (HV.out.on HB2.out).at 0 (by simp)
  cases hao
  simp at hcell
  go_wp2_with (at_builtin; refine wpList_append_lies _ rfl _ _ 22 rfl w.heap.size 5 i0 _ 1 1 Tryd.underlying22 hi0 hz0 hz1 hz2 rfl (by omega) _ 2 (bcells [b2, b1]) rfl (T2.out.alloc _) ⟨u2.heap.size, 0, none⟩ 1 1 [.int .u8 (b0.toNat : Int)] rfl rfl (World.news_of_block (cs := #[.int .u8 (b0.toNat : Int)]) (heap_alloc_new u2 _)) (by simp [Value.oneCell']) (by omega) (by unfold maxLen; omega) (by omega) (by have := HB2.out.size; simp; omega) (u2.heap.size + 1) (by simp) ?_)
  intro g3 cap3 u3 hown hgrow hat hlt
  have T3 : Hid (u3.ownsRow w.heap.size 5 1 (.slice (some ⟨g3, 0, none⟩) 3 cap3) 3 (bcells [b2, b1, b0])) := Lib.hid hown
  have HB3 := Lib.hid ((HB2.out.alloc HB2.out.size _).grown hgrow (by have := HB2.out.size; simp; omega) (fun j hj => (T2.out.lt j hj).1))
  clear hown hgrow hat hlt hcell
  go_wp2
  rw [rounds_succ]
  go_wp2_with fail
  refine (new_reader _ _ u3 (HV.out.on HB3.out) (by simp)).mono ?_
  rintro e wp ⟨p, vp, rfl, hp, hb⟩
  have HBp := Lib.hid (HB3.out.trans (hb.mono HB3.out.size))
  have HP := Lib.hid hp
  have TB := Lib.hid ((bytesAt_own (l := [b2, b1, b0]) T3.out).on hb)
  have hpl : p < wp.heap.size := hp.lt
  have hpb : w.heap.size ≤ p := Nat.le_trans HB3.out.size hp.base
  clear hp hb
  go_wp2_with fail
  refine (new_reader _ _ wp TB.out (by simp)).mono ?_
  rintro e wq ⟨q, vq, rfl, hq, hb⟩
  have HBq := Lib.hid (HBp.out.trans (hb.mono HBp.out.size))
  have HPq := Lib.hid (HP.out.on hb)
  have HQ := Lib.hid hq
  have hql : q < wq.heap.size := hq.lt
  have hqb : w.heap.size ≤ q := Nat.le_trans HBp.out.size hq.base
  clear hq hb
  go_wp2_with fail
  refine (new_reader _ _ wq (HV.out.on HBq.out) (by simp)).mono ?_
  rintro e ws ⟨s, vs, rfl, hs, hb⟩
  have HBs := Lib.hid (HBq.out.trans (hb.mono HBq.out.size))
  have HPs := Lib.hid (HPq.out.on hb)
  have HQs := Lib.hid (HQ.out.on hb)
  have HS := Lib.hid hs
  have hsb : w.heap.size ≤ s := Nat.le_trans HBq.out.size hs.base
  clear hs hb
  go_wp2_with fail
  refine (u_ok _ p vp _ 0 3 ws HPs.out (by decide) (by decide) (by simp)).mono ?_
  rintro e x1 ⟨rfl, _, ho⟩
  have HQ1 := Lib.hid (HQs.out.up ho (fun k e => by subst e; exact hpl))
  have HS1 := Lib.hid (HS.out.up ho (fun k e => by subst e; have := HQ.out.lt; have := HQ.out.base; omega))
  have HBx1 := Lib.hid (HBs.out.trans (ho.below HBs.out.size (fun k e => by subst e; exact hpb)))
  clear ho
  rw [show ((leNum (List.take 3 (List.drop 0 [b0, b1, b2])) : Nat) : Int) = z from HN.out.1]
  go_wp2_with fail
  refine (b_ok _ q vq _ 0 3 x1 HQ1.out (by decide) (by decide) (by simp)).mono ?_
  rintro e x2 ⟨rfl, _, ho⟩
  have HS2 := Lib.hid (HS1.out.up ho (fun k e => by subst e; exact hql))
  have HBx2 := Lib.hid (HBx1.out.trans (ho.below HBx1.out.size (fun k e => by subst e; exact hqb)))
  clear ho
  rw [show ((leNum (List.take 3 (List.drop 0 [b2, b1, b0])).reverse : Nat) : Int) = z from HN.out.1]
  go_wp2_with fail
  refine (i_ok _ s vs _ 0 3 x2 HS2.out (by decide) (by decide) (by simp)).mono ?_
  rintro e x3 ⟨rfl, _, ho⟩
  have HBx3 := Lib.hid (HBx2.out.trans (ho.below HBx2.out.size (fun k e => by subst e; exact hsb)))
  clear ho
  rw [show sgnNum 3 (leNum (List.take 3 (List.drop 0 [b0, b1, b2]))) = z from HN.out.2]
  go_wp2_with fail
  refine (first_any x3 (HG.out.up HBx3.out)).mono ?_
  rintro e x4 ⟨rfl, hb⟩
  have HBx4 := Lib.hid (HBx3.out.trans (hb.mono HBx3.out.size))
  clear hb
  go_wp2
  go_ret
  exact ⟨rfl, HBx4.out⟩

theorem turns3 (b0 b1 b2 : UInt8) (v : Value) (w : World) (hv : BytesAt w v [b0, b1, b2]) (hg : ErrT w) :
    Calls Tryd.prog 6 #[v] w fun e w' => e = .returned (.bool true) ∧ Below w.heap.size w w' := by
  have l0 := byte_lt b0
  have l1 := byte_lt b1
  have l2 := byte_lt b2
  by_cases hh : 8388608 ≤ b0.toNat + 256 * (b1.toNat + 256 * (b2.toNat + 256 * (0)))
  · exact turns3a b0 b1 b2 v ((b0.toNat + 256 * (b1.toNat + 256 * (b2.toNat + 256 * (0))) : Nat) : Int) w hv hg rfl (by unfold sgnNum; rw [show leNum [b0, b1, b2] = b0.toNat + 256 * (b1.toNat + 256 * (b2.toNat + 256 * (0))) from rfl, if_pos (by omega)]; rfl) (by omega) (by omega) (by omega)
  · exact turns3b b0 b1 b2 v ((b0.toNat + 256 * (b1.toNat + 256 * (b2.toNat + 256 * (0))) : Nat) : Int) w hv hg rfl (by unfold sgnNum; rw [show leNum [b0, b1, b2] = b0.toNat + 256 * (b1.toNat + 256 * (b2.toNat + 256 * (0))) from rfl, if_neg (by omega)]) (by omega) (by omega) (by omega)

set_option maxRecDepth 100000 in
set_option maxHeartbeats 1000000 in
theorem turns4a (b0 b1 b2 b3 : UInt8) (v : Value) (z : Int) (w : World) (hv : BytesAt w v [b0, b1, b2, b3]) (hg : ErrT w)
    (hn : ((leNum [b0, b1, b2, b3] : Nat) : Int) = z) (hsg : sgnNum 4 (leNum [b0, b1, b2, b3]) = z - 4294967296) (hz0 : 0 ≤ z) (hz1 : z < 4294967296) (hh : 2147483648 ≤ z) :
    Calls Tryd.prog 6 #[v] w fun e w' => e = .returned (.bool true) ∧ Below w.heap.size w w' := by
  have HN := Lib.hid (And.intro hn hsg)
  clear hn hsg
  obtain ⟨i0, hi0, hz0, hz1, hz2⟩ := info_parts info5
  have HG := Lib.hid hg
  have HV := Lib.hid hv
  obtain ⟨ao, cap, rfl, _⟩ := hv
  have l0 := byte_lt b0
  have l1 := byte_lt b1
  have l2 := byte_lt b2
  have l3 := byte_lt b3
  clear hg
  go_enter Tryd.func6, Tryd.ntmps6
  go_wp2_with fail
  refine (first_any w HG.out).mono ?_
  rintro e w1 ⟨rfl, hb⟩
  have HB0 := Lib.hid hb
  have T0 := Lib.hid (World.ownsRow_nil w1 w.heap.size 5 1)
  clear hb
  go_wp2
  refine wp_loop_rounds 5 ?_
  rw [rounds_succ]
  obtain ⟨b, off, hao, hcell⟩ := (HV.out.on HB0.out).at 3 (by simp)
  cases hao
  simp at hcell
  go_wp2_with (at_builtin; refine wpList_append_lies _ rfl _ _ 22 rfl w.heap.size 5 i0 _ 1 1 Tryd.underlying22 hi0 hz0 hz1 hz2 rfl (by omega) _ 0 (bcells []) rfl (T0.out.alloc _) ⟨w1.heap.size, 0, none⟩ 1 1 [.int .u8 (b3.toNat : Int)] rfl rfl (World.news_of_block (cs := #[.int .u8 (b3.toNat : Int)]) (heap_alloc_new w1 _)) (by simp [Value.oneCell']) (by omega) (by unfold maxLen; omega) (by omega) (by have := HB0.out.size; simp; omega) (w1.heap.size + 1) (by simp) ?_)
  intro g1 cap1 u1 hown hgrow hat hlt
  have T1 : Hid (u1.ownsRow w.heap.size 5 1 (.slice (some ⟨g1, 0, none⟩) 1 cap1) 1 (bcells [b3])) := Lib.hid hown
  have HB1 := Lib.hid ((HB0.out.alloc HB0.out.size _).grown hgrow (by have := HB0.out.size; simp; omega) (fun j hj => (T0.out.lt j hj).1))
  clear hown hgrow hat hlt hcell
  go_wp2
  rw [rounds_succ]
  obtain ⟨b, off, hao, hcell⟩ := (HV.out.on HB1.out).at 2 (by simp)
  cases hao
  simp at hcell
  go_wp2_with (at_builtin; refine wpList_append_lies _ rfl _ _ 22 rfl w.heap.size 5 i0 _ 1 1 Tryd.underlying22 hi0 hz0 hz1 hz2 rfl (by omega) _ 1 (bcells [b3]) rfl (T1.out.alloc _) ⟨u1.heap.size, 0, none⟩ 1 1 [.int .u8 (b2.toNat : Int)] rfl rfl (World.news_of_block (cs := #[.int .u8 (b2.toNat : Int)]) (heap_alloc_new u1 _)) (by simp [Value.oneCell']) (by omega) (by unfold maxLen; omega) (by omega) (by have := HB1.out.size; simp; omega) (u1.heap.size + 1) (by simp) ?_)
  intro g2 cap2 u2 hown hgrow hat hlt
  have T2 : Hid (u2.ownsRow w.heap.size 5 1 (.slice (some ⟨g2, 0, none⟩) 2 cap2) 2 (bcells [b3, b2])) := Lib.hid hown
  have HB2 := Lib.hid ((HB1.out.alloc HB1.out.size _).grown hgrow (by have := HB1.out.size; simp; omega) (fun j hj => (T1.out.lt j hj).1))
  clear hown hgrow hat hlt hcell
  go_wp2
  rw [rounds_succ]
  obtain ⟨b, off, hao, hcell⟩ := (HV.out.on HB2.out).at 1 (by simp)
  cases hao
  simp at hcell
  go_wp2_with (at_builtin; refine wpList_append_lies _ rfl _ _ 22 rfl w.heap.size 5 i0 _ 1 1 Tryd.underlying22 hi0 hz0 hz1 hz2 rfl (by omega) _ 2 (bcells [b3, b2]) rfl (T2.out.alloc _) ⟨u2.heap.size, 0, none⟩ 1 1 [.int .u8 (b1.toNat : Int)] rfl rfl (World.news_of_block (cs := #[.int .u8 (b1.toNat : Int)]) (heap_alloc_new u2 _)) (by simp [Value.oneCell']) (by omega) (by unfold maxLen; omega) (by omega) (by have := HB2.out.size; simp; omega) (u2.heap.size + 1) (by simp) ?_)
  intro g3 cap3 u3 hown hgrow hat hlt
  have T3 : Hid (u3.ownsRow w.heap.size 5 1 (.slice (some ⟨g3, 0, none⟩) 3 cap3) 3 (bcells [b3, b2, b1])) := Lib.hid hown
  have HB3 := Lib.hid ((HB2.out.alloc HB2.out.size _).grown hgrow (by have := HB2.out.size; simp; omega) (fun j hj => (T2.out.lt j hj).1))
  clear hown hgrow hat hlt hcell
  go_wp2
  rw [rounds_succ]
  obtain ⟨b, off, hao, hcell⟩ := (HV.out.on HB3.out).at 0 (by simp)
  cases hao
  simp at hcell
  go_wp2_with (at_builtin; refine wpList_append_lies _ rfl _ _ 22 rfl w.heap.size 5 i0 _ 1 1 Tryd.underlying22 hi0 hz0 hz1 hz2 rfl (by omega) _ 3 (bcells [b3, b2, b1]) rfl (T3.out.alloc _) ⟨u3.heap.size, 0, none⟩ 1 1 [.int .u8 (b0.toNat : Int)] rfl rfl (World.news_of_block (cs := #[.int .u8 (b0.toNat : Int)]) (heap_alloc_new u3 _)) (by simp [Value.oneCell']) (by omega) (by unfold maxLen; omega) (by omega) (by have := HB3.out.size; simp; omega) (u3.heap.size + 1) (by simp) ?_)
  intro g4 cap4 u4 hown hgrow hat hlt
  have T4 : Hid (u4.ownsRow w.heap.size 5 1 (.slice (some ⟨g4, 0, none⟩) 4 cap4) 4 (bcells [b3, b2, b1, b0])) := Lib.hid hown
  have HB4 := Lib.hid ((HB3.out.alloc HB3.out.size _).grown hgrow (by have := HB3.out.size; simp; omega) (fun j hj => (T3.out.lt j hj).1))
  clear hown hgrow hat hlt hcell
  go_wp2
  rw [rounds_succ]
  go_wp2_with fail
  refine (new_reader _ _ u4 (HV.out.on HB4.out) (by simp)).mono ?_
  rintro e wp ⟨p, vp, rfl, hp, hb⟩
  have HBp := Lib.hid (HB4.out.trans (hb.mono HB4.out.size))
  have HP := Lib.hid hp
  have TB := Lib.hid ((bytesAt_own (l := [b3, b2, b1, b0]) T4.out).on hb)
  have hpl : p < wp.heap.size := hp.lt
  have hpb : w.heap.size ≤ p := Nat.le_trans HB4.out.size hp.base
  clear hp hb
  go_wp2_with fail
  refine (new_reader _ _ wp TB.out (by simp)).mono ?_
  rintro e wq ⟨q, vq, rfl, hq, hb⟩
  have HBq := Lib.hid (HBp.out.trans (hb.mono HBp.out.size))
  have HPq := Lib.hid (HP.out.on hb)
  have HQ := Lib.hid hq
  have hql : q < wq.heap.size := hq.lt
  have hqb : w.heap.size ≤ q := Nat.le_trans HBp.out.size hq.base
  clear hq hb
  go_wp2_with fail
  refine (new_reader _ _ wq (HV.out.on HBq.out) (by simp)).mono ?_
  rintro e ws ⟨s, vs, rfl, hs, hb⟩
  have HBs := Lib.hid (HBq.out.trans (hb.mono HBq.out.size))
  have HPs := Lib.hid (HPq.out.on hb)
  have HQs := Lib.hid (HQ.out.on hb)
  have HS := Lib.hid hs
  have hsb : w.heap.size ≤ s := Nat.le_trans HBq.out.size hs.base
  clear hs hb
  go_wp2_with fail
  refine (u_ok _ p vp _ 0 4 ws HPs.out (by decide) (by decide) (by simp)).mono ?_
  rintro e x1 ⟨rfl, _, ho⟩
  have HQ1 := Lib.hid (HQs.out.up ho (fun k e => by subst e; exact hpl))
  have HS1 := Lib.hid (HS.out.up ho (fun k e => by subst e; have := HQ.out.lt; have := HQ.out.base; omega))
  have HBx1 := Lib.hid (HBs.out.trans (ho.below HBs.out.size (fun k e => by subst e; exact hpb)))
  clear ho
  rw [show ((leNum (List.take 4 (List.drop 0 [b0, b1, b2, b3])) : Nat) : Int) = z from HN.out.1]
  go_wp2_with fail
  refine (b_ok _ q vq _ 0 4 x1 HQ1.out (by decide) (by decide) (by simp)).mono ?_
  rintro e x2 ⟨rfl, _, ho⟩
  have HS2 := Lib.hid (HS1.out.up ho (fun k e => by subst e; exact hql))
  have HBx2 := Lib.hid (HBx1.out.trans (ho.below HBx1.out.size (fun k e => by subst e; exact hqb)))
  clear ho
  rw [show ((leNum (List.take 4 (List.drop 0 [b3, b2, b1, b0])).reverse : Nat) : Int) = z from HN.out.1]
  go_wp2_with fail
  refine (i_ok _ s vs _ 0 4 x2 HS2.out (by decide) (by decide) (by simp)).mono ?_
  rintro e x3 ⟨rfl, _, ho⟩
  have HBx3 := Lib.hid (HBx2.out.trans (ho.below HBx2.out.size (fun k e => by subst e; exact hsb)))
  clear ho
  rw [show sgnNum 4 (leNum (List.take 4 (List.drop 0 [b0, b1, b2, b3]))) = z - 4294967296 from HN.out.2]
  go_wp2_with fail
  refine (first_any x3 (HG.out.up HBx3.out)).mono ?_
  rintro e x4 ⟨rfl, hb⟩
  have HBx4 := Lib.hid (HBx3.out.trans (hb.mono HBx3.out.size))
  clear hb
  go_wp2
  go_ret
  exact ⟨ret_dec (by omega), HBx4.out⟩

set_option maxRecDepth 100000 in
set_option maxHeartbeats 1000000 in
theorem turns4b (b0 b1 b2 b3 : UInt8) (v : Value) (z : Int) (w : World) (hv : BytesAt w v [b0, b1, b2, b3]) (hg : ErrT w)
    (hn : ((leNum [b0, b1, b2, b3] : Nat) : Int) = z) (hsg : sgnNum 4 (leNum [b0, b1, b2, b3]) = z) (hz0 : 0 ≤ z) (hz1 : z < 4294967296) (hh : z < 2147483648) :
    Calls Tryd.prog 6 #[v] w fun e w' => e = .returned (.bool true) ∧ Below w.heap.size w w' := by
  have HN := Lib.hid (And.intro hn hsg)
  clear hn hsg
  obtain ⟨i0, hi0, hz0, hz1, hz2⟩ := info_parts info5
  have HG := Lib.hid hg
  have HV := Lib.hid hv
  obtain ⟨ao, cap, rfl, _⟩ := hv
  have l0 := byte_lt b0
  have l1 := byte_lt b1
  have l2 := byte_lt b2
  have l3 := byte_lt b3
  clear hg
  go_enter Tryd.func6, Tryd.ntmps6
  go_wp2_with fail
  refine (first_any w HG.out).mono ?_
  rintro e w1 ⟨rfl, hb⟩
  have HB0 := Lib.hid hb
  have T0 := Lib.hid (World.ownsRow_nil w1 w.heap.size 5 1)
  clear hb
  go_wp2
  refine wp_loop_rounds 5 ?_
  rw [rounds_succ]
  obtain ⟨b, off, hao, hcell⟩ := (HV.out.on HB0.out).at 3 (by simp)
  cases hao
  simp at hcell
  go_wp2_with (at_builtin; refine wpList_append_lies _ rfl _ _ 22 rfl w.heap.size 5 i0 _ 1 1 Tryd.underlying22 hi0 hz0 hz1 hz2 rfl (by omega) _ 0 (bcells []) rfl (T0.out.alloc _) ⟨w1.heap.size, 0, none⟩ 1 1 [.int .u8 (b3.toNat : Int)] rfl rfl (World.news_of_block (cs := #[.int .u8 (b3.toNat : Int)]) (heap_alloc_new w1 _)) (by simp [Value.oneCell']) (by omega) (by unfold maxLen; omega) (by omega) (by have := HB0.out.size; simp; omega) (w1.heap.size + 1) (by simp) ?_)
  intro g1 cap1 u1 hown hgrow hat hlt
  have T1 : Hid (u1.ownsRow w.heap.size 5 1 (.slice (some ⟨g1, 0, none⟩) 1 cap1) 1 (bcells [b3])) := Lib.hid hown
  have HB1 := Lib.hid ((HB0.out.alloc HB0.out.size _).grown hgrow (by have := HB0.out.size; simp; omega) (fun j hj => (T0.out.lt j hj).1))
  clear hown hgrow hat hlt hcell
  go_wp2
  rw [rounds_succ]
  obtain ⟨b, off, hao, hcell⟩ := (HV.out.on HB1.out).at 2 (by simp)
  cases hao
  simp at hcell
  go_wp2_with (at_builtin; refine wpList_append_lies _ rfl _ _ 22 rfl w.heap.size 5 i0 _ 1 1 Tryd.underlying22 hi0 hz0 hz1 hz2 rfl (by omega) _ 1 (bcells [b3]) rfl (T1.out.alloc _) ⟨u1.heap.size, 0, none⟩ 1 1 [.int .u8 (b2.toNat : Int)] rfl rfl (World.news_of_block (cs := #[.int .u8 (b2.toNat : Int)]) (heap_alloc_new u1 _)) (by simp [Value.oneCell']) (by omega) (by unfold maxLen; omega) (by omega) (by have := HB1.out.size; simp; omega) (u1.heap.size + 1) (by simp) ?_)
  intro g2 cap2 u2 hown hgrow hat hlt
  have T2 : Hid (u2.ownsRow w.heap.size 5 1 (.slice (some ⟨g2, 0, none⟩) 2 cap2) 2 (bcells [b3, b2])) := Lib.hid hown
  have HB2 := Lib.hid ((HB1.out.alloc HB1.out.size _).grown hgrow (by have := HB1.out.size; simp; omega) (fun j hj => (T1.out.lt j hj).1))
  clear hown hgrow hat hlt hcell
  go_wp2
  rw [rounds_succ]
  obtain ⟨b, off, hao, hcell⟩ := (HV.out.on HB2.out).at 1 (by simp)
  cases hao
  simp at hcell
  go_wp2_with (at_builtin; refine wpList_append_lies _ rfl _ _ 22 rfl w.heap.size 5 i0 _ 1 1 Tryd.underlying22 hi0 hz0 hz1 hz2 rfl (by omega) _ 2 (bcells [b3, b2]) rfl (T2.out.alloc _) ⟨u2.heap.size, 0, none⟩ 1 1 [.int .u8 (b1.toNat : Int)] rfl rfl (World.news_of_block (cs := #[.int .u8 (b1.toNat : Int)]) (heap_alloc_new u2 _)) (by simp [Value.oneCell']) (by omega) (by unfold maxLen; omega) (by omega) (by have := HB2.out.size; simp; omega) (u2.heap.size + 1) (by simp) ?_)
  intro g3 cap3 u3 hown hgrow hat hlt
  have T3 : Hid (u3.ownsRow w.heap.size 5 1 (.slice (some ⟨g3, 0, none⟩) 3 cap3) 3 (bcells [b3, b2, b1])) := Lib.hid hown
  have HB3 := Lib.hid ((HB2.out.alloc HB2.out.size _).grown hgrow (by have := HB2.out.size; simp; omega) (fun j hj => (T2.out.lt j hj).1))
  clear hown hgrow hat hlt hcell
  go_wp2
  rw [rounds_succ]
  obtain ⟨b, off, hao, hcell⟩ := (HV.out.on HB3.out).at 0 (by simp)
  cases hao
  simp at hcell
  go_wp2_with (at_builtin; refine wpList_append_lies _ rfl _ _ 22 rfl w.heap.size 5 i0 _ 1 1 Tryd.underlying22 hi0 hz0 hz1 hz2 rfl (by omega) _ 3 (bcells [b3, b2, b1]) rfl (T3.out.alloc _) ⟨u3.heap.size, 0, none⟩ 1 1 [.int .u8 (b0.toNat : Int)] rfl rfl (World.news_of_block (cs := #[.int .u8 (b0.toNat : Int)]) (heap_alloc_new u3 _)) (by simp [Value.oneCell']) (by omega) (by unfold maxLen; omega) (by omega) (by have := HB3.out.size; simp; omega) (u3.heap.size + 1) (by simp) ?_)
  intro g4 cap4 u4 hown hgrow hat hlt
  have T4 : Hid (u4.ownsRow w.heap.size 5 1 (.slice (some ⟨g4, 0, none⟩) 4 cap4) 4 (bcells [b3, b2, b1, b0])) := Lib.hid hown
  have HB4 := Lib.hid ((HB3.out.alloc HB3.out.size _).grown hgrow (by have := HB3.out.size; simp; omega) (fun j hj => (T3.out.lt j hj).1))
  clear hown hgrow hat hlt hcell
  go_wp2
  rw [rounds_succ]
  go_wp2_with fail
  refine (new_reader _ _ u4 (HV.out.on HB4.out) (by simp)).mono ?_
  rintro e wp ⟨p, vp, rfl, hp, hb⟩
  have HBp := Lib.hid (HB4.out.trans (hb.mono HB4.out.size))
  have HP := Lib.hid hp
  have TB := Lib.hid ((bytesAt_own (l := [b3, b2, b1, b0]) T4.out).on hb)
  have hpl : p < wp.heap.size := hp.lt
  have hpb : w.heap.size ≤ p := Nat.le_trans HB4.out.size hp.base
  clear hp hb
  go_wp2_with fail
  refine (new_reader _ _ wp TB.out (by simp)).mono ?_
  rintro e wq ⟨q, vq, rfl, hq, hb⟩
  have HBq := Lib.hid (HBp.out.trans (hb.mono HBp.out.size))
  have HPq := Lib.hid (HP.out.on hb)
  have HQ := Lib.hid hq
  have hql : q < wq.heap.size := hq.lt
  have hqb : w.heap.size ≤ q := Nat.le_trans HBp.out.size hq.base
  clear hq hb
  go_wp2_with fail
  refine (new_reader _ _ wq (HV.out.on HBq.out) (by simp)).mono ?_
  rintro e ws ⟨s, vs, rfl, hs, hb⟩
  have HBs := Lib.hid (HBq.out.trans (hb.mono HBq.out.size))
  have HPs := Lib.hid (HPq.out.on hb)
  have HQs := Lib.hid (HQ.out.on hb)
  have HS := Lib.hid hs
  have hsb : w.heap.size ≤ s := Nat.le_trans HBq.out.size hs.base
  clear hs hb
  go_wp2_with fail
  refine (u_ok _ p vp _ 0 4 ws HPs.out (by decide) (by decide) (by simp)).mono ?_
  rintro e x1 ⟨rfl, _, ho⟩
  have HQ1 := Lib.hid (HQs.out.up ho (fun k e => by subst e; exact hpl))
  have HS1 := Lib.hid (HS.out.up ho (fun k e => by subst e; have := HQ.out.lt; have := HQ.out.base; omega))
  have HBx1 := Lib.hid (HBs.out.trans (ho.below HBs.out.size (fun k e => by subst e; exact hpb)))
  clear ho
  rw [show ((leNum (List.take 4 (List.drop 0 [b0, b1, b2, b3])) : Nat) : Int) = z from HN.out.1]
  go_wp2_with fail
  refine (b_ok _ q vq _ 0 4 x1 HQ1.out (by decide) (by decide) (by simp)).mono ?_
  rintro e x2 ⟨rfl, _, ho⟩
  have HS2 := Lib.hid (HS1.out.up ho (fun k e => by subst e; exact hql))
  have HBx2 := Lib.hid (HBx1.out.trans (ho.below HBx1.out.size (fun k e => by subst e; exact hqb)))
  clear ho
  rw [show ((leNum (List.take 4 (List.drop 0 [b3, b2, b1, b0])).reverse : Nat) : Int) = z from HN.out.1]
  go_wp2_with fail
  refine (i_ok _ s vs _ 0 4 x2 HS2.out (by decide) (by decide) (by simp)).mono ?_
  rintro e x3 ⟨rfl, _, ho⟩
  have HBx3 := Lib.hid (HBx2.out.trans (ho.below HBx2.out.size (fun k e => by subst e; exact hsb)))
  clear ho
  rw [show sgnNum 4 (leNum (List.take 4 (List.drop 0 [b0, b1, b2, b3]))) = z from HN.out.2]
  go_wp2_with fail
  refine (first_any x3 (HG.out.up HBx3.out)).mono ?_
  rintro e x4 ⟨rfl, hb⟩
  have HBx4 := Lib.hid (HBx3.out.trans (hb.mono HBx3.out.size))
  clear hb
  go_wp2
  go_ret
  exact ⟨rfl, HBx4.out⟩

theorem turns4 (b0 b1 b2 b3 : UInt8) (v : Value) (w : World) (hv : BytesAt w v [b0, b1, b2, b3]) (hg : ErrT w) :
    Calls Tryd.prog 6 #[v] w fun e w' => e = .returned (.bool true) ∧ Below w.heap.size w w' := by
  have l0 := byte_lt b0
  have l1 := byte_lt b1
  have l2 := byte_lt b2
  have l3 := byte_lt b3
  by_cases hh : 2147483648 ≤ b0.toNat + 256 * (b1.toNat + 256 * (b2.toNat + 256 * (b3.toNat + 256 * (0))))
  · exact turns4a b0 b1 b2 b3 v ((b0.toNat + 256 * (b1.toNat + 256 * (b2.toNat + 256 * (b3.toNat + 256 * (0)))) : Nat) : Int) w hv hg rfl (by unfold sgnNum; rw [show leNum [b0, b1, b2, b3] = b0.toNat + 256 * (b1.toNat + 256 * (b2.toNat + 256 * (b3.toNat + 256 * (0)))) from rfl, if_pos (by omega)]; rfl) (by omega) (by omega) (by omega)
  · exact turns4b b0 b1 b2 b3 v ((b0.toNat + 256 * (b1.toNat + 256 * (b2.toNat + 256 * (b3.toNat + 256 * (0)))) : Nat) : Int) w hv hg rfl (by unfold sgnNum; rw [show leNum [b0, b1, b2, b3] = b0.toNat + 256 * (b1.toNat + 256 * (b2.toNat + 256 * (b3.toNat + 256 * (0)))) from rfl, if_neg (by omega)]) (by omega) (by omega) (by omega)

set_option maxRecDepth 100000 in
set_option maxHeartbeats 1000000 in
theorem turns5a (b0 b1 b2 b3 b4 : UInt8) (v : Value) (z : Int) (w : World) (hv : BytesAt w v [b0, b1, b2, b3, b4]) (hg : ErrT w)
    (hn : ((leNum [b0, b1, b2, b3, b4] : Nat) : Int) = z) (hsg : sgnNum 5 (leNum [b0, b1, b2, b3, b4]) = z - 1099511627776) (hz0 : 0 ≤ z) (hz1 : z < 1099511627776) (hh : 549755813888 ≤ z) :
    Calls Tryd.prog 6 #[v] w fun e w' => e = .returned (.bool true) ∧ Below w.heap.size w w' := by
  have HN := Lib.hid (And.intro hn hsg)
  clear hn hsg
  obtain ⟨i0, hi0, hz0, hz1, hz2⟩ := info_parts info5
  have HG := Lib.hid hg
  have HV := Lib.hid hv
  obtain ⟨ao, cap, rfl, _⟩ := hv
  have l0 := byte_lt b0
  have l1 := byte_lt b1
  have l2 := byte_lt b2
  have l3 := byte_lt b3
  have l4 := byte_lt b4
  clear hg
  go_enter Tryd.func6, Tryd.ntmps6
  go_wp2_with fail
  refine (first_any w HG.out).mono ?_
  rintro e w1 ⟨rfl, hb⟩
  have HB0 := Lib.hid hb
  have T0 := Lib.hid (World.ownsRow_nil w1 w.heap.size 5 1)
  clear hb
  go_wp2
  refine wp_loop_rounds 6 ?_
  rw [rounds_succ]
  obtain ⟨b, off, hao, hcell⟩ := (HV.out.on HB0.out).at 4 (by simp)
  cases hao
  simp at hcell
  go_wp2_with (at_builtin; refine wpList_append_lies _ rfl _ _ 22 rfl w.heap.size 5 i0 _ 1 1 Tryd.underlying22 hi0 hz0 hz1 hz2 rfl (by omega) _ 0 (bcells []) rfl (T0.out.alloc _) ⟨w1.heap.size, 0, none⟩ 1 1 [.int .u8 (b4.toNat : Int)] rfl rfl (World.news_of_block (cs := #[.int .u8 (b4.toNat : Int)]) (heap_alloc_new w1 _)) (by simp [Value.oneCell']) (by omega) (by unfold maxLen; omega) (by omega) (by have := HB0.out.size; simp; omega) (w1.heap.size + 1) (by simp) ?_)
  intro g1 cap1 u1 hown hgrow hat hlt
  have T1 : Hid (u1.ownsRow w.heap.size 5 1 (.slice (some ⟨g1, 0, none⟩) 1 cap1) 1 (bcells [b4])) := Lib.hid hown
  have HB1 := Lib.hid ((HB0.out.alloc HB0.out.size _).grown hgrow (by have := HB0.out.size; simp; omega) (fun j hj => (T0.out.lt j hj).1))
  clear hown hgrow hat hlt hcell
  go_wp2
  rw [rounds_succ]
  obtain ⟨b, off, hao, hcell⟩ := (HV.out.on HB1.out).at 3 (by simp)
  cases hao
  simp at hcell
  go_wp2_with (at_builtin; refine wpList_append_lies _ rfl _ _ 22 rfl w.heap.size 5 i0 _ 1 1 Tryd.underlying22 hi0 hz0 hz1 hz2 rfl (by omega) _ 1 (bcells [b4]) rfl (T1.out.alloc _) ⟨u1.heap.size, 0, none⟩ 1 1 [.int .u8 (b3.toNat : Int)] rfl rfl (World.news_of_block (cs := #[.int .u8 (b3.toNat : Int)]) (heap_alloc_new u1 _)) (by simp [Value.oneCell']) (by omega) (by unfold maxLen; omega) (by omega) (by have := HB1.out.size; simp; omega) (u1.heap.size + 1) (by simp) ?_)
  intro g2 cap2 u2 hown hgrow hat hlt
  have T2 : Hid (u2.ownsRow w.heap.size 5 1 (.slice (some ⟨g2, 0, none⟩) 2 cap2) 2 (bcells [b4, b3])) := Lib.hid hown
  have HB2 := Lib.hid ((HB1.out.alloc HB1.out.size _).grown hgrow (by have := HB1.out.size; simp; omega) (fun j hj => (T1.out.lt j hj).1))
  clear hown hgrow hat hlt hcell
  go_wp2
  rw [rounds_succ]
  obtain ⟨b, off, hao, hcell⟩ := (HV.out.on HB2.out).at 2 (by simp)
  cases hao
  simp at hcell
  go_wp2_with (at_builtin; refine wpList_append_lies _ rfl _ _ 22 rfl w.heap.size 5 i0 _ 1 1 Tryd.underlying22 hi0 hz0 hz1 hz2 rfl (by omega) _ 2 (bcells [b4, b3]) rfl (T2.out.alloc _) ⟨u2.heap.size, 0, none⟩ 1 1 [.int .u8 (b2.toNat : Int)] rfl rfl (World.news_of_block (cs := #[.int .u8 (b2.toNat : Int)]) (heap_alloc_new u2 _)) (by simp [Value.oneCell']) (by omega) (by unfold maxLen; omega) (by omega) (by have := HB2.out.size; simp; omega) (u2.heap.size + 1) (by simp) ?_)
  intro g3 cap3 u3 hown hgrow hat hlt
  have T3 : Hid (u3.ownsRow w.heap.size 5 1 (.slice (some ⟨g3, 0, none⟩) 3 cap3) 3 (bcells [b4, b3, b2])) := Lib.hid hown
  have HB3 := Lib.hid ((HB2.out.alloc HB2.out.size _).grown hgrow (by have := HB2.out.size; simp; omega) (fun j hj => (T2.out.lt j hj).1))
  clear hown hgrow hat hlt hcell
  go_wp2
  rw [rounds_succ]
  obtain ⟨b, off, hao, hcell⟩ := (HV.out.on HB3.out).at 1 (by simp)
  cases hao
  simp at hcell
  go_wp2_with (at_builtin; refine wpList_append_lies _ rfl _ _ 22 rfl w.heap.size 5 i0 _ 1 1 Tryd.underlying22 hi0 hz0 hz1 hz2 rfl (by omega) _ 3 (bcells [b4, b3, b2]) rfl (T3.out.alloc _) ⟨u3.heap.size, 0, none⟩ 1 1 [.int .u8 (b1.toNat : Int)] rfl rfl (World.news_of_block (cs := #[.int .u8 (b1.toNat : Int)]) (heap_alloc_new u3 _)) (by simp [Value.oneCell']) (by omega) (by unfold maxLen; omega) (by omega) (by have := HB3.out.size; simp; omega) (u3.heap.size + 1) (by simp) ?_)
  intro g4 cap4 u4 hown hgrow hat hlt
  have T4 : Hid (u4.ownsRow w.heap.size 5 1 (.slice (some ⟨g4, 0, none⟩) 4 cap4) 4 (bcells [b4, b3, b2, b1])) := Lib.hid hown
  have HB4 := Lib.hid ((HB3.out.alloc HB3.out.size _).grown hgrow (by have := HB3.out.size; simp; omega) (fun j hj => (T3.out.lt j hj).1))
  clear hown hgrow hat hlt hcell
  go_wp2
  rw [rounds_succ]
  obtain ⟨b, off, hao, hcell⟩ := (HV.out.on HB4.out).at 0 (by simp)
  cases hao
  simp at hcell
  go_wp2_with (at_builtin; refine wpList_append_lies _ rfl _ _ 22 rfl w.heap.size 5 i0 _ 1 1 Tryd.underlying22 hi0 hz0 hz1 hz2 rfl (by omega) _ 4 (bcells [b4, b3, b2, b1]) rfl (T4.out.alloc _) ⟨u4.heap.size, 0, none⟩ 1 1 [.int .u8 (b0.toNat : Int)] rfl rfl (World.news_of_block (cs := #[.int .u8 (b0.toNat : Int)]) (heap_alloc_new u4 _)) (by simp [Value.oneCell']) (by omega) (by unfold maxLen; omega) (by omega) (by have := HB4.out.size; simp; omega) (u4.heap.size + 1) (by simp) ?_)
  intro g5 cap5 u5 hown hgrow hat hlt
  have T5 : Hid (u5.ownsRow w.heap.size 5 1 (.slice (some ⟨g5, 0, none⟩) 5 cap5) 5 (bcells [b4, b3, b2, b1, b0])) := Lib.hid hown
  have HB5 := Lib.hid ((HB4.out.alloc HB4.out.size _).grown hgrow (by have := HB4.out.size; simp; omega) (fun j hj => (T4.out.lt j hj).1))
  clear hown hgrow hat hlt hcell
  go_wp2
  rw [rounds_succ]
  go_wp2_with fail
  refine (new_reader _ _ u5 (HV.out.on HB5.out) (by simp)).mono ?_
  rintro e wp ⟨p, vp, rfl, hp, hb⟩
  have HBp := Lib.hid (HB5.out.trans (hb.mono HB5.out.size))
  have HP := Lib.hid hp
  have TB := Lib.hid ((bytesAt_own (l := [b4, b3, b2, b1, b0]) T5.out).on hb)
  have hpl : p < wp.heap.size := hp.lt
  have hpb : w.heap.size ≤ p := Nat.le_trans HB5.out.size hp.base
  clear hp hb
  go_wp2_with fail
  refine (new_reader _ _ wp TB.out (by simp)).mono ?_
  rintro e wq ⟨q, vq, rfl, hq, hb⟩
  have HBq := Lib.hid (HBp.out.trans (hb.mono HBp.out.size))
  have HPq := Lib.hid (HP.out.on hb)
  have HQ := Lib.hid hq
  have hql : q < wq.heap.size := hq.lt
  have hqb : w.heap.size ≤ q := Nat.le_trans HBp.out.size hq.base
  clear hq hb
  go_wp2_with fail
  refine (new_reader _ _ wq (HV.out.on HBq.out) (by simp)).mono ?_
  rintro e ws ⟨s, vs, rfl, hs, hb⟩
  have HBs := Lib.hid (HBq.out.trans (hb.mono HBq.out.size))
  have HPs := Lib.hid (HPq.out.on hb)
  have HQs := Lib.hid (HQ.out.on hb)
  have HS := Lib.hid hs
  have hsb : w.heap.size ≤ s := Nat.le_trans HBq.out.size hs.base
  clear hs hb
  go_wp2_with fail
  refine (u_ok _ p vp _ 0 5 ws HPs.out (by decide) (by decide) (by simp)).mono ?_
  rintro e x1 ⟨rfl, _, ho⟩
  have HQ1 := Lib.hid (HQs.out.up ho (fun k e => by subst e; exact hpl))
  have HS1 := Lib.hid (HS.out.up ho (fun k e => by subst e; have := HQ.out.lt; have := HQ.out.base; omega))
  have HBx1 := Lib.hid (HBs.out.trans (ho.below HBs.out.size (fun k e => by subst e; exact hpb)))
  clear ho
  rw [show ((leNum (List.take 5 (List.drop 0 [b0, b1, b2, b3, b4])) : Nat) : Int) = z from HN.out.1]
  go_wp2_with fail
  refine (b_ok _ q vq _ 0 5 x1 HQ1.out (by decide) (by decide) (by simp)).mono ?_
  rintro e x2 ⟨rfl, _, ho⟩
  have HS2 := Lib.hid (HS1.out.up ho (fun k e => by subst e; exact hql))
  have HBx2 := Lib.hid (HBx1.out.trans (ho.below HBx1.out.size (fun k e => by subst e; exact hqb)))
  clear ho
  rw [show ((leNum (List.take 5 (List.drop 0 [b4, b3, b2, b1, b0])).reverse : Nat) : Int) = z from HN.out.1]
  go_wp2_with fail
  refine (i_ok _ s vs _ 0 5 x2 HS2.out (by decide) (by decide) (by simp)).mono ?_
  rintro e x3 ⟨rfl, _, ho⟩
  have HBx3 := Lib.hid (HBx2.out.trans (ho.below HBx2.out.size (fun k e => by subst e; exact hsb)))
  clear ho
  rw [show sgnNum 5 (leNum (List.take 5 (List.drop 0 [b0, b1, b2, b3, b4]))) = z - 1099511627776 from HN.out.2]
  go_wp2_with fail
  refine (first_any x3 (HG.out.up HBx3.out)).mono ?_
  rintro e x4 ⟨rfl, hb⟩
  have HBx4 := Lib.hid (HBx3.out.trans (hb.mono HBx3.out.size))
  clear hb
  go_wp2
  go_ret
  exact ⟨ret_dec (by omega), HBx4.out⟩

set_option maxRecDepth 100000 in
set_option maxHeartbeats 1000000 in
theorem turns5b (b0 b1 b2 b3 b4 : UInt8) (v : Value) (z : Int) (w : World) (hv : BytesAt w v [b0, b1, b2, b3, b4]) (hg : ErrT w)
    (hn : ((leNum [b0, b1, b2, b3, b4] : Nat) : Int) = z) (hsg : sgnNum 5 (leNum [b0, b1, b2, b3, b4]) = z) (hz0 : 0 ≤ z) (hz1 : z < 1099511627776) (hh : z < 549755813888) :
    Calls Tryd.prog 6 #[v] w fun e w' => e = .returned (.bool true) ∧ Below w.heap.size w w' := by
  have HN := Lib.hid (And.intro hn hsg)
  clear hn hsg
  obtain ⟨i0, hi0, hz0, hz1, hz2⟩ := info_parts info5
  have HG := Lib.hid hg
  have HV := Lib.hid hv
  obtain ⟨ao, cap, rfl, _⟩ := hv
  have l0 := byte_lt b0
  have l1 := byte_lt b1
  have l2 := byte_lt b2
  have l3 := byte_lt b3
  have l4 := byte_lt b4
  clear hg
  go_enter Tryd.func6, Tryd.ntmps6
  go_wp2_with fail
  refine (first_any w HG.out).mono ?_
  rintro e w1 ⟨rfl, hb⟩
  have HB0 := Lib.hid hb
  have T0 := Lib.hid (World.ownsRow_nil w1 w.heap.size 5 1)
  clear hb
  go_wp2
  refine wp_loop_rounds 6 ?_
  rw [rounds_succ]
  obtain ⟨b, off, hao, hcell⟩ := (HV.out.on HB0.out).at 4 (by simp)
  cases hao
  simp at hcell
  go_wp2_with (at_builtin; refine wpList_append_lies _ rfl _ _ 22 rfl w.heap.size 5 i0 _ 1 1 Tryd.underlying22 hi0 hz0 hz1 hz2 rfl (by omega) _ 0 (bcells []) rfl (T0.out.alloc _) ⟨w1.heap.size, 0, none⟩ 1 1 [.int .u8 (b4.toNat : Int)] rfl rfl (World.news_of_block (cs := #[.int .u8 (b4.toNat : Int)]) (heap_alloc_new w1 _)) (by simp [Value.oneCell']) (by omega) (by unfold maxLen; omega) (by omega) (by have := HB0.out.size; simp; omega) (w1.heap.size + 1) (by simp) ?_)
  intro g1 cap1 u1 hown hgrow hat hlt
  have T1 : Hid (u1.ownsRow w.heap.size 5 1 (.slice (some ⟨g1, 0, none⟩) 1 cap1) 1 (bcells [b4])) := Lib.hid hown
  have HB1 := Lib.hid ((HB0.out.alloc HB0.out.size _).grown hgrow (by have := HB0.out.size; simp; omega) (fun j hj => (T0.out.lt j hj).1))
  clear hown hgrow hat hlt hcell
  go_wp2
  rw [rounds_succ]
  obtain ⟨b, off, hao, hcell⟩ := (HV.out.on HB1.out).at 3 (by simp)
  cases hao
  simp at hcell
  go_wp2_with (at_builtin; refine wpList_append_lies _ rfl _ _ 22 rfl w.heap.size 5 i0 _ 1 1 Tryd.underlying22 hi0 hz0 hz1 hz2 rfl (by omega) _ 1 (bcells [b4]) rfl (T1.out.alloc _) ⟨u1.heap.size, 0, none⟩ 1 1 [.int .u8 (b3.toNat : Int)] rfl rfl (World.news_of_block (cs := #[.int .u8 (b3.toNat : Int)]) (heap_alloc_new u1 _)) (by simp [Value.oneCell']) (by omega) (by unfold maxLen; omega) (by omega) (by have := HB1.out.size; simp; omega) (u1.heap.size + 1) (by simp) ?_)
  intro g2 cap2 u2 hown hgrow hat hlt
  have T2 : Hid (u2.ownsRow w.heap.size 5 1 (.slice (some ⟨g2, 0, none⟩) 2 cap2) 2 (bcells [b4, b3])) := Lib.hid hown
  have HB2 := Lib.hid ((HB1.out.alloc HB1.out.size _).grown hgrow (by have := HB1.out.size; simp; omega) (fun j hj => (T1.out.lt j hj).1))
  clear hown hgrow hat hlt hcell
  go_wp2
  rw [rounds_succ]
  obtain ⟨b, off, hao, hcell⟩ := (HV.out.on HB2.out).at 2 (by simp)
  cases hao
  simp at hcell
  go_wp2_with (at_builtin; refine wpList_append_lies _ rfl _ _ 22 rfl w.heap.size 5 i0 _ 1 1 Tryd.underlying22 hi0 hz0 hz1 hz2 rfl (by omega) _ 2 (bcells [b4, b3]) rfl (T2.out.alloc _) ⟨u2.heap.size, 0, none⟩ 1 1 [.int .u8 (b2.toNat : Int)] rfl rfl (World.news_of_block (cs := #[.int .u8 (b2.toNat : Int)]) (heap_alloc_new u2 _)) (by simp [Value.oneCell']) (by omega) (by unfold maxLen; omega) (by omega) (by have := HB2.out.size; simp; omega) (u2.heap.size + 1) (by simp) ?_)
  intro g3 cap3 u3 hown hgrow hat hlt
  have T3 : Hid (u3.ownsRow w.heap.size 5 1 (.slice (some ⟨g3, 0, none⟩) 3 cap3) 3 (bcells [b4, b3, b2])) := Lib.hid hown
  have HB3 := Lib.hid ((HB2.out.alloc HB2.out.size _).grown hgrow (by have := HB2.out.size; simp; omega) (fun j hj => (T2.out.lt j hj).1))
  clear hown hgrow hat hlt hcell
  go_wp2
  rw [rounds_succ]
  obtain ⟨b, off, hao, hcell⟩ := (HV.out.on HB3.out).at 1 (by simp)
  cases hao
  simp at hcell
  go_wp2_with (at_builtin; refine wpList_append_lies _ rfl _ _ 22 rfl w.heap.size 5 i0 _ 1 1 Tryd.underlying22 hi0 hz0 hz1 hz2 rfl (by omega) _ 3 (bcells [b4, b3, b2]) rfl (T3.out.alloc _) ⟨u3.heap.size, 0, none⟩ 1 1 [.int .u8 (b1.toNat : Int)] rfl rfl (World.news_of_block (cs := #[.int .u8 (b1.toNat : Int)]) (heap_alloc_new u3 _)) (by simp [Value.oneCell']) (by omega) (by unfold maxLen; omega) (by omega) (by have := HB3.out.size; simp; omega) (u3.heap.size + 1) (by simp) ?_)
  intro g4 cap4 u4 hown hgrow hat hlt
  have T4 : Hid (u4.ownsRow w.heap.size 5 1 (.slice (some ⟨g4, 0, none⟩) 4 cap4) 4 (bcells [b4, b3, b2, b1])) := Lib.hid hown
  have HB4 := Lib.hid ((HB3.out.alloc HB3.out.size _).grown hgrow (by have := HB3.out.size; simp; omega) (fun j hj => (T3.out.lt j hj).1))
  clear hown hgrow hat hlt hcell
  go_wp2
  rw [rounds_succ]
  obtain ⟨b, off, hao, hcell⟩ := (HV.out.on HB4.out).at 0 (by simp)
  cases hao
  simp at hcell
  go_wp2_with (at_builtin; refine wpList_append_lies _ rfl _ _ 22 rfl w.heap.size 5 i0 _ 1 1 Tryd.underlying22 hi0 hz0 hz1 hz2 rfl (by omega) _ 4 (bcells [b4, b3, b2, b1]) rfl (T4.out.alloc _) ⟨u4.heap.size, 0, none⟩ 1 1 [.int .u8 (b0.toNat : Int)] rfl rfl (World.news_of_block (cs := #[.int .u8 (b0.toNat : Int)]) (heap_alloc_new u4 _)) (by simp [Value.oneCell']) (by omega) (by unfold maxLen; omega) (by omega) (by have := HB4.out.size; simp; omega) (u4.heap.size + 1) (by simp) ?_)
  intro g5 cap5 u5 hown hgrow hat hlt
  have T5 : Hid (u5.ownsRow w.heap.size 5 1 (.slice (some ⟨g5, 0, none⟩) 5 cap5) 5 (bcells [b4, b3, b2, b1, b0])) := Lib.hid hown
  have HB5 := Lib.hid ((HB4.out.alloc HB4.out.size _).grown hgrow (by have := HB4.out.size; simp; omega) (fun j hj => (T4.out.lt j hj).1))
  clear hown hgrow hat hlt hcell
  go_wp2
  rw [rounds_succ]
  go_wp2_with fail
  refine (new_reader _ _ u5 (HV.out.on HB5.out) (by simp)).mono ?_
  rintro e wp ⟨p, vp, rfl, hp, hb⟩
  have HBp := Lib.hid (HB5.out.trans (hb.mono HB5.out.size))
  have HP := Lib.hid hp
  have TB := Lib.hid ((bytesAt_own (l := [b4, b3, b2, b1, b0]) T5.out).on hb)
  have hpl : p < wp.heap.size := hp.lt
  have hpb : w.heap.size ≤ p := Nat.le_trans HB5.out.size hp.base
  clear hp hb
  go_wp2_with fail
  refine (new_reader _ _ wp TB.out (by simp)).mono ?_
  rintro e wq ⟨q, vq, rfl, hq, hb⟩
  have HBq := Lib.hid (HBp.out.trans (hb.mono HBp.out.size))
  have HPq := Lib.hid (HP.out.on hb)
  have HQ := Lib.hid hq
  have hql : q < wq.heap.size := hq.lt
  have hqb : w.heap.size ≤ q := Nat.le_trans HBp.out.size hq.base
  clear hq hb
  go_wp2_with fail
  refine (new_reader _ _ wq (HV.out.on HBq.out) (by simp)).mono ?_
  rintro e ws ⟨s, vs, rfl, hs, hb⟩
  have HBs := Lib.hid (HBq.out.trans (hb.mono HBq.out.size))
  have HPs := Lib.hid (HPq.out.on hb)
  have HQs := Lib.hid (HQ.out.on hb)
  have HS := Lib.hid hs
  have hsb : w.heap.size ≤ s := Nat.le_trans HBq.out.size hs.base
  clear hs hb
  go_wp2_with fail
  refine (u_ok _ p vp _ 0 5 ws HPs.out (by decide) (by decide) (by simp)).mono ?_
  rintro e x1 ⟨rfl, _, ho⟩
  have HQ1 := Lib.hid (HQs.out.up ho (fun k e => by subst e; exact hpl))
  have HS1 := Lib.hid (HS.out.up ho (fun k e => by subst e; have := HQ.out.lt; have := HQ.out.base; omega))
  have HBx1 := Lib.hid (HBs.out.trans (ho.below HBs.out.size (fun k e => by subst e; exact hpb)))
  clear ho
  rw [show ((leNum (List.take 5 (List.drop 0 [b0, b1, b2, b3, b4])) : Nat) : Int) = z from HN.out.1]
  go_wp2_with fail
  refine (b_ok _ q vq _ 0 5 x1 HQ1.out (by decide) (by decide) (by simp)).mono ?_
  rintro e x2 ⟨rfl, _, ho⟩
  have HS2 := Lib.hid (HS1.out.up ho (fun k e => by subst e; exact hql))
  have HBx2 := Lib.hid (HBx1.out.trans (ho.below HBx1.out.size (fun k e => by subst e; exact hqb)))
  clear ho
  rw [show ((leNum (List.take 5 (List.drop 0 [b4, b3, b2, b1, b0])).reverse : Nat) : Int) = z from HN.out.1]
  go_wp2_with fail
  refine (i_ok _ s vs _ 0 5 x2 HS2.out (by decide) (by decide) (by simp)).mono ?_
  rintro e x3 ⟨rfl, _, ho⟩
  have HBx3 := Lib.hid (HBx2.out.trans (ho.below HBx2.out.size (fun k e => by subst e; exact hsb)))
  clear ho
  rw [show sgnNum 5 (leNum (List.take 5 (List.drop 0 [b0, b1, b2, b3, b4]))) = z from HN.out.2]
  go_wp2_with fail
  refine (first_any x3 (HG.out.up HBx3.out)).mono ?_
  rintro e x4 ⟨rfl, hb⟩
  have HBx4 := Lib.hid (HBx3.out.trans (hb.mono HBx3.out.size))
  clear hb
  go_wp2
  go_ret
  exact ⟨rfl, HBx4.out⟩

theorem turns5 (b0 b1 b2 b3 b4 : UInt8) (v : Value) (w : World) (hv : BytesAt w v [b0, b1, b2, b3, b4]) (hg : ErrT w) :
    Calls Tryd.prog 6 #[v] w fun e w' => e = .returned (.bool true) ∧ Below w.heap.size w w' := by
  have l0 := byte_lt b0
  have l1 := byte_lt b1
  have l2 := byte_lt b2
  have l3 := byte_lt b3
  have l4 := byte_lt b4
  by_cases hh : 549755813888 ≤ b0.toNat + 256 * (b1.toNat + 256 * (b2.toNat + 256 * (b3.toNat + 256 * (b4.toNat + 256 * (0)))))
  · exact turns5a b0 b1 b2 b3 b4 v ((b0.toNat + 256 * (b1.toNat + 256 * (b2.toNat + 256 * (b3.toNat + 256 * (b4.toNat + 256 * (0))))) : Nat) : Int) w hv hg rfl (by unfold sgnNum; rw [show leNum [b0, b1, b2, b3, b4] = b0.toNat + 256 * (b1.toNat + 256 * (b2.toNat + 256 * (b3.toNat + 256 * (b4.toNat + 256 * (0))))) from rfl, if_pos (by omega)]; rfl) (by omega) (by omega) (by omega)
  · exact turns5b b0 b1 b2 b3 b4 v ((b0.toNat + 256 * (b1.toNat + 256 * (b2.toNat + 256 * (b3.toNat + 256 * (b4.toNat + 256 * (0))))) : Nat) : Int) w hv hg rfl (by unfold sgnNum; rw [show leNum [b0, b1, b2, b3, b4] = b0.toNat + 256 * (b1.toNat + 256 * (b2.toNat + 256 * (b3.toNat + 256 * (b4.toNat + 256 * (0))))) from rfl, if_neg (by omega)]) (by omega) (by omega) (by omega)

set_option maxRecDepth 100000 in
set_option maxHeartbeats 1000000 in
theorem turns6a (b0 b1 b2 b3 b4 b5 : UInt8) (v : Value) (z : Int) (w : World) (hv : BytesAt w v [b0, b1, b2, b3, b4, b5]) (hg : ErrT w)
    (hn : ((leNum [b0, b1, b2, b3, b4, b5] : Nat) : Int) = z) (hsg : sgnNum 6 (leNum [b0, b1, b2, b3, b4, b5]) = z - 281474976710656) (hz0 : 0 ≤ z) (hz1 : z < 281474976710656) (hh : 140737488355328 ≤ z) :
    Calls Tryd.prog 6 #[v] w fun e w' => e = .returned (.bool true) ∧ Below w.heap.size w w' := by
  have HN := Lib.hid (And.intro hn hsg)
  clear hn hsg
  obtain ⟨i0, hi0, hz0, hz1, hz2⟩ := info_parts info5
  have HG := Lib.hid hg
  have HV := Lib.hid hv
  obtain ⟨ao, cap, rfl, _⟩ := hv
  have l0 := byte_lt b0
  have l1 := byte_lt b1
  have l2 := byte_lt b2
  have l3 := byte_lt b3
  have l4 := byte_lt b4
  have l5 := byte_lt b5
  clear hg
  go_enter Tryd.func6, Tryd.ntmps6
  go_wp2_with fail
  refine (first_any w HG.out).mono ?_
  rintro e w1 ⟨rfl, hb⟩
  have HB0 := Lib.hid hb
  have T0 := Lib.hid (World.ownsRow_nil w1 w.heap.size 5 1)
  clear hb
  go_wp2
  refine wp_loop_rounds 7 ?_
  rw [rounds_succ]
  obtain ⟨b, off, hao, hcell⟩ := (HV.out.on HB0.out).at 5 (by simp)
  cases hao
  simp at hcell
  go_wp2_with (at_builtin; refine wpList_append_lies _ rfl _ _ 22 rfl w.heap.size 5 i0 _ 1 1 Tryd.underlying22 hi0 hz0 hz1 hz2 rfl (by omega) _ 0 (bcells []) rfl (T0.out.alloc _) ⟨w1.heap.size, 0, none⟩ 1 1 [.int .u8 (b5.toNat : Int)] rfl rfl (World.news_of_block (cs := #[.int .u8 (b5.toNat : Int)]) (heap_alloc_new w1 _)) (by simp [Value.oneCell']) (by omega) (by unfold maxLen; omega) (by omega) (by have := HB0.out.size; simp; omega) (w1.heap.size + 1) (by simp) ?_)
  intro g1 cap1 u1 hown hgrow hat hlt
  have T1 : Hid (u1.ownsRow w.heap.size 5 1 (.slice (some ⟨g1, 0, none⟩) 1 cap1) 1 (bcells [b5])) := Lib.hid hown
  have HB1 := Lib.hid ((HB0.out.alloc HB0.out.size _).grown hgrow (by have := HB0.out.size; simp; omega) (fun j hj => (T0.out.lt j hj).1))
  clear hown hgrow hat hlt hcell
  go_wp2
  rw [rounds_succ]
  obtain ⟨b, off, hao, hcell⟩ := (HV.out.on HB1.out).at 4 (by simp)
  cases hao
  simp at hcell
  go_wp2_with (at_builtin; refine wpList_append_lies _ rfl _ _ 22 rfl w.heap.size 5 i0 _ 1 1 Tryd.underlying22 hi0 hz0 hz1 hz2 rfl (by omega) _ 1 (bcells [b5]) rfl (T1.out.alloc _) ⟨u1.heap.size, 0, none⟩ 1 1 [.int .u8 (b4.toNat : Int)] rfl rfl (World.news_of_block (cs := #[.int .u8 (b4.toNat : Int)]) (heap_alloc_new u1 _)) (by simp [Value.oneCell']) (by omega) (by unfold maxLen; omega) (by omega) (by have := HB1.out.size; simp; omega) (u1.heap.size + 1) (by simp) ?_)
  intro g2 cap2 u2 hown hgrow hat hlt
  have T2 : Hid (u2.ownsRow w.heap.size 5 1 (.slice (some ⟨g2, 0, none⟩) 2 cap2) 2 (bcells [b5, b4])) := Lib.hid hown
  have HB2 := Lib.hid ((HB1.out.alloc HB1.out.size _).grown hgrow (by have := HB1.out.size; simp; omega) (fun j hj => (T1.out.lt j hj).1))
  clear hown hgrow hat hlt hcell
  go_wp2
  rw [rounds_succ]
  obtain ⟨b, off, hao, hcell⟩ := (HV.out.on HB2.out).at 3 (by simp)
  cases hao
  simp at hcell
  go_wp2_with (at_builtin; refine wpList_append_lies _ rfl _ _ 22 rfl w.heap.size 5 i0 _ 1 1 Tryd.underlying22 hi0 hz0 hz1 hz2 rfl (by omega) _ 2 (bcells [b5, b4]) rfl (T2.out.alloc _) ⟨u2.heap.size, 0, none⟩ 1 1 [.int .u8 (b3.toNat : Int)] rfl rfl (World.news_of_block (cs := #[.int .u8 (b3.toNat : Int)]) (heap_alloc_new u2 _)) (by simp [Value.oneCell']) (by omega) (by unfold maxLen; omega) (by omega) (by have := HB2.out.size; simp; omega) (u2.heap.size + 1) (by simp) ?_)
  intro g3 cap3 u3 hown hgrow hat hlt
  have T3 : Hid (u3.ownsRow w.heap.size 5 1 (.slice (some ⟨g3, 0, none⟩) 3 cap3) 3 (bcells [b5, b4, b3])) := Lib.hid hown
  have HB3 := Lib.hid ((HB2.out.alloc HB2.out.size _).grown hgrow (by have := HB2.out.size; simp; omega) (fun j hj => (T2.out.lt j hj).1))
  clear hown hgrow hat hlt hcell
  go_wp2
  rw [rounds_succ]
  obtain ⟨b, off, hao, hcell⟩ := (HV.out.on HB3.out).at 2 (by simp)
  cases hao
  simp at hcell
  go_wp2_with (at_builtin; refine wpList_append_lies _ rfl _ _ 22 rfl w.heap.size 5 i0 _ 1 1 Tryd.underlying22 hi0 hz0 hz1 hz2 rfl (by omega) _ 3 (bcells [b5, b4, b3]) rfl (T3.out.alloc _) ⟨u3.heap.size, 0, none⟩ 1 1 [.int .u8 (b2.toNat : Int)] rfl rfl (World.news_of_block (cs := #[.int .u8 (b2.toNat : Int)]) (heap_alloc_new u3 _)) (by simp [Value.oneCell']) (by omega) (by unfold maxLen; omega) (by omega) (by have := HB3.out.size; simp; omega) (u3.heap.size + 1) (by simp) ?_)
  intro g4 cap4 u4 hown hgrow hat hlt
  have T4 : Hid (u4.ownsRow w.heap.size 5 1 (.slice (some ⟨g4, 0, none⟩) 4 cap4) 4 (bcells [b5, b4, b3, b2])) := Lib.hid hown
  have HB4 := Lib.hid ((HB3.out.alloc HB3.out.size _).grown hgrow (by have := HB3.out.size; simp; omega) (fun j hj => (T3.out.lt j hj).1))
  clear hown hgrow hat hlt hcell
  go_wp2
  rw [rounds_succ]
  obtain ⟨b, off, hao, hcell⟩ := (HV.out.on HB4.out).at 1 (by simp)
  cases hao
  simp at hcell
  go_wp2_with (at_builtin; refine wpList_append_lies _ rfl _ _ 22 rfl w.heap.size 5 i0 _ 1 1 Tryd.underlying22 hi0 hz0 hz1 hz2 rfl (by omega) _ 4 (bcells [b5, b4, b3, b2]) rfl (T4.out.alloc _) ⟨u4.heap.size, 0, none⟩ 1 1 [.int .u8 (b1.toNat : Int)] rfl rfl (World.news_of_block (cs := #[.int .u8 (b1.toNat : Int)]) (heap_alloc_new u4 _)) (by simp [Value.oneCell']) (by omega) (by unfold maxLen; omega) (by omega) (by have := HB4.out.size; simp; omega) (u4.heap.size + 1) (by simp) ?_)
  intro g5 cap5 u5 hown hgrow hat hlt
  have T5 : Hid (u5.ownsRow w.heap.size 5 1 (.slice (some ⟨g5, 0, none⟩) 5 cap5) 5 (bcells [b5, b4, b3, b2, b1])) := Lib.hid hown
  have HB5 := Lib.hid ((HB4.out.alloc HB4.out.size _).grown hgrow (by have := HB4.out.size; simp; omega) (fun j hj => (T4.out.lt j hj).1))
  clear hown hgrow hat hlt hcell
  go_wp2
  rw [rounds_succ]
  obtain ⟨b, off, hao, hcell⟩ := (HV.out.on HB5.out).at 0 (by simp)
  cases hao
  simp at hcell
  go_wp2_with (at_builtin; refine wpList_append_lies _ rfl _ _ 22 rfl w.heap.size 5 i0 _ 1 1 Tryd.underlying22 hi0 hz0 hz1 hz2 rfl (by omega) _ 5 (bcells [b5, b4, b3, b2, b1]) rfl (T5.out.alloc _) ⟨u5.heap.size, 0, none⟩ 1 1 [.int .u8 (b0.toNat : Int)] rfl rfl (World.news_of_block (cs := #[.int .u8 (b0.toNat : Int)]) (heap_alloc_new u5 _)) (by simp [Value.oneCell']) (by omega) (by unfold maxLen; omega) (by omega) (by have := HB5.out.size; simp; omega) (u5.heap.size + 1) (by simp) ?_)
  intro g6 cap6 u6 hown hgrow hat hlt
  have T6 : Hid (u6.ownsRow w.heap.size 5 1 (.slice (some ⟨g6, 0, none⟩) 6 cap6) 6 (bcells [b5, b4, b3, b2, b1, b0])) := Lib.hid hown
  have HB6 := Lib.hid ((HB5.out.alloc HB5.out.size _).grown hgrow (by have := HB5.out.size; simp; omega) (fun j hj => (T5.out.lt j hj).1))
  clear hown hgrow hat hlt hcell
  go_wp2
  rw [rounds_succ]
  go_wp2_with fail
  refine (new_reader _ _ u6 (HV.out.on HB6.out) (by simp)).mono ?_
  rintro e wp ⟨p, vp, rfl, hp, hb⟩
  have HBp := Lib.hid (HB6.out.trans (hb.mono HB6.out.size))
  have HP := Lib.hid hp
  have TB := Lib.hid ((bytesAt_own (l := [b5, b4, b3, b2, b1, b0]) T6.out).on hb)
  have hpl : p < wp.heap.size := hp.lt
  have hpb : w.heap.size ≤ p := Nat.le_trans HB6.out.size hp.base
  clear hp hb
  go_wp2_with fail
  refine (new_reader _ _ wp TB.out (by simp)).mono ?_
  rintro e wq ⟨q, vq, rfl, hq, hb⟩
  have HBq := Lib.hid (HBp.out.trans (hb.mono HBp.out.size))
  have HPq := Lib.hid (HP.out.on hb)
  have HQ := Lib.hid hq
  have hql : q < wq.heap.size := hq.lt
  have hqb : w.heap.size ≤ q := Nat.le_trans HBp.out.size hq.base
  clear hq hb
  go_wp2_with fail
  refine (new_reader _ _ wq (HV.out.on HBq.out) (by simp)).mono ?_
  rintro e ws ⟨s, vs, rfl, hs, hb⟩
  have HBs := Lib.hid (HBq.out.trans (hb.mono HBq.out.size))
  have HPs := Lib.hid (HPq.out.on hb)
  have HQs := Lib.hid (HQ.out.on hb)
  have HS := Lib.hid hs
  have hsb : w.heap.size ≤ s := Nat.le_trans HBq.out.size hs.base
  clear hs hb
  go_wp2_with fail
  refine (u_ok _ p vp _ 0 6 ws HPs.out (by decide) (by decide) (by simp)).mono ?_
  rintro e x1 ⟨rfl, _, ho⟩
  have HQ1 := Lib.hid (HQs.out.up ho (fun k e => by subst e; exact hpl))
  have HS1 := Lib.hid (HS.out.up ho (fun k e => by subst e; have := HQ.out.lt; have := HQ.out.base; omega))
  have HBx1 := Lib.hid (HBs.out.trans (ho.below HBs.out.size (fun k e => by subst e; exact hpb)))
  clear ho
  rw [show ((leNum (List.take 6 (List.drop 0 [b0, b1, b2, b3, b4, b5])) : Nat) : Int) = z from HN.out.1]
  go_wp2_with fail
  refine (b_ok _ q vq _ 0 6 x1 HQ1.out (by decide) (by decide) (by simp)).mono ?_
  rintro e x2 ⟨rfl, _, ho⟩
  have HS2 := Lib.hid (HS1.out.up ho (fun k e => by subst e; exact hql))
  have HBx2 := Lib.hid (HBx1.out.trans (ho.below HBx1.out.size (fun k e => by subst e; exact hqb)))
  clear ho
  rw [show ((leNum (List.take 6 (List.drop 0 [b5, b4, b3, b2, b1, b0])).reverse : Nat) : Int) = z from HN.out.1]
  go_wp2_with fail
  refine (i_ok _ s vs _ 0 6 x2 HS2.out (by decide) (by decide) (by simp)).mono ?_
  rintro e x3 ⟨rfl, _, ho⟩
  have HBx3 := Lib.hid (HBx2.out.trans (ho.below HBx2.out.size (fun k e => by subst e; exact hsb)))
  clear ho
  rw [show sgnNum 6 (leNum (List.take 6 (List.drop 0 [b0, b1, b2, b3, b4, b5]))) = z - 281474976710656 from HN.out.2]
  go_wp2_with fail
  refine (first_any x3 (HG.out.up HBx3.out)).mono ?_
  rintro e x4 ⟨rfl, hb⟩
  have HBx4 := Lib.hid (HBx3.out.trans (hb.mono HBx3.out.size))
  clear hb
  go_wp2
  go_ret
  exact ⟨ret_dec (by omega), HBx4.out⟩

set_option maxRecDepth 100000 in
set_option maxHeartbeats 1000000 in
theorem turns6b (b0 b1 b2 b3 b4 b5 : UInt8) (v : Value) (z : Int) (w : World) (hv : BytesAt w v [b0, b1, b2, b3, b4, b5]) (hg : ErrT w)
    (hn : ((leNum [b0, b1, b2, b3, b4, b5] : Nat) : Int) = z) (hsg : sgnNum 6 (leNum [b0, b1, b2, b3, b4, b5]) = z) (hz0 : 0 ≤ z) (hz1 : z < 281474976710656) (hh : z < 140737488355328) :
    Calls Tryd.prog 6 #[v] w fun e w' => e = .returned (.bool true) ∧ Below w.heap.size w w' := by
  have HN := Lib.hid (And.intro hn hsg)
  clear hn hsg
  obtain ⟨i0, hi0, hz0, hz1, hz2⟩ := info_parts info5
  have HG := Lib.hid hg
  have HV := Lib.hid hv
  obtain ⟨ao, cap, rfl, _⟩ := hv
  have l0 := byte_lt b0
  have l1 := byte_lt b1
  have l2 := byte_lt b2
  have l3 := byte_lt b3
  have l4 := byte_lt b4
  have l5 := byte_lt b5
  clear hg
  go_enter Tryd.func6, Tryd.ntmps6
  go_wp2_with fail
  refine (first_any w HG.out).mono ?_
  rintro e w1 ⟨rfl, hb⟩
  have HB0 := Lib.hid hb
  have T0 := Lib.hid (World.ownsRow_nil w1 w.heap.size 5 1)
  clear hb
  go_wp2
  refine wp_loop_rounds 7 ?_
  rw [rounds_succ]
  obtain ⟨b, off, hao, hcell⟩ := (HV.out.on HB0.out).at 5 (by simp)
  cases hao
  simp at hcell
  go_wp2_with (at_builtin; refine wpList_append_lies _ rfl _ _ 22 rfl w.heap.size 5 i0 _ 1 1 Tryd.underlying22 hi0 hz0 hz1 hz2 rfl (by omega) _ 0 (bcells []) rfl (T0.out.alloc _) ⟨w1.heap.size, 0, none⟩ 1 1 [.int .u8 (b5.toNat : Int)] rfl rfl (World.news_of_block (cs := #[.int .u8 (b5.toNat : Int)]) (heap_alloc_new w1 _)) (by simp [Value.oneCell']) (by omega) (by unfold maxLen; omega) (by omega) (by have := HB0.out.size; simp; omega) (w1.heap.size + 1) (by simp) ?_)
  intro g1 cap1 u1 hown hgrow hat hlt
  have T1 : Hid (u1.ownsRow w.heap.size 5 1 (.slice (some ⟨g1, 0, none⟩) 1 cap1) 1 (bcells [b5])) := Lib.hid hown
  have HB1 := Lib.hid ((HB0.out.alloc HB0.out.size _).grown hgrow (by have := HB0.out.size; simp; omega) (fun j hj => (T0.out.lt j hj).1))
  clear hown hgrow hat hlt hcell
  go_wp2
  rw [rounds_succ]
  obtain ⟨b, off, hao, hcell⟩ := (HV.out.on HB1.out).at 4 (by simp)
  cases hao
  simp at hcell
  go_wp2_with (at_builtin; refine wpList_append_lies _ rfl _ _ 22 rfl w.heap.size 5 i0 _ 1 1 Tryd.underlying22 hi0 hz0 hz1 hz2 rfl (by omega) _ 1 (bcells [b5]) rfl (T1.out.alloc _) ⟨u1.heap.size, 0, none⟩ 1 1 [.int .u8 (b4.toNat : Int)] rfl rfl (World.news_of_block (cs := #[.int .u8 (b4.toNat : Int)]) (heap_alloc_new u1 _)) (by simp [Value.oneCell']) (by omega) (by unfold maxLen; omega) (by omega) (by have := HB1.out.size; simp; omega) (u1.heap.size + 1) (by simp) ?_)
  intro g2 cap2 u2 hown hgrow hat hlt
  have T2 : Hid (u2.ownsRow w.heap.size 5 1 (.slice (some ⟨g2, 0, none⟩) 2 cap2) 2 (bcells [b5, b4])) := Lib.hid hown
  have HB2 := Lib.hid ((HB1.out.alloc HB1.out.size _).grown hgrow (by have := HB1.out.size; simp; omega) (fun j hj => (T1.out.lt j hj).1))
  clear hown hgrow hat hlt hcell
  go_wp2
  rw [rounds_succ]
  obtain ⟨b, off, hao, hcell⟩ := (HV.out.on HB2.out).at 3 (by simp)
  cases hao
  simp at hcell
  go_wp2_with (at_builtin; refine wpList_append_lies _ rfl _ _ 22 rfl w.heap.size 5 i0 _ 1 1 Tryd.underlying22 hi0 hz0 hz1 hz2 rfl (by omega) _ 2 (bcells [b5, b4]) rfl (T2.out.alloc _) ⟨u2.heap.size, 0, none⟩ 1 1 [.int .u8 (b3.toNat : Int)] rfl rfl (World.news_of_block (cs := #[.int .u8 (b3.toNat : Int)]) (heap_alloc_new u2 _)) (by simp [Value.oneCell']) (by omega) (by unfold maxLen; omega) (by omega) (by have := HB2.out.size; simp; omega) (u2.heap.size + 1) (by simp) ?_)
  intro g3 cap3 u3 hown hgrow hat hlt
  have T3 : Hid (u3.ownsRow w.heap.size 5 1 (.slice (some ⟨g3, 0, none⟩) 3 cap3) 3 (bcells [b5, b4, b3])) := Lib.hid hown
  have HB3 := Lib.hid ((HB2.out.alloc HB2.out.size _).grown hgrow (by have := HB2.out.size; simp; omega) (fun j hj => (T2.out.lt j hj).1))
  clear hown hgrow hat hlt hcell
  go_wp2
  rw [rounds_succ]
  obtain ⟨b, off, hao, hcell⟩ := (HV.out.on HB3.out).at 2 (by simp)
  cases hao
  simp at hcell
  go_wp2_with (at_builtin; refine wpList_append_lies _ rfl _ _ 22 rfl w.heap.size 5 i0 _ 1 1 Tryd.underlying22 hi0 hz0 hz1 hz2 rfl (by omega) _ 3 (bcells [b5, b4, b3]) rfl (T3.out.alloc _) ⟨u3.heap.size, 0, none⟩ 1 1 [.int .u8 (b2.toNat : Int)] rfl rfl (World.news_of_block (cs := #[.int .u8 (b2.toNat : Int)]) (heap_alloc_new u3 _)) (by simp [Value.oneCell']) (by omega) (by unfold maxLen; omega) (by omega) (by have := HB3.out.size; simp; omega) (u3.heap.size + 1) (by simp) ?_)
  intro g4 cap4 u4 hown hgrow hat hlt
  have T4 : Hid (u4.ownsRow w.heap.size 5 1 (.slice (some ⟨g4, 0, none⟩) 4 cap4) 4 (bcells [b5, b4, b3, b2])) := Lib.hid hown
  have HB4 := Lib.hid ((HB3.out.alloc HB3.out.size _).grown hgrow (by have := HB3.out.size; simp; omega) (fun j hj => (T3.out.lt j hj).1))
  clear hown hgrow hat hlt hcell
  go_wp2
  rw [rounds_succ]
  obtain ⟨b, off, hao, hcell⟩ := (HV.out.on HB4.out).at 1 (by simp)
  cases hao
  simp at hcell
  go_wp2_with (at_builtin; refine wpList_append_lies _ rfl _ _ 22 rfl w.heap.size 5 i0 _ 1 1 Tryd.underlying22 hi0 hz0 hz1 hz2 rfl (by omega) _ 4 (bcells [b5, b4, b3, b2]) rfl (T4.out.alloc _) ⟨u4.heap.size, 0, none⟩ 1 1 [.int .u8 (b1.toNat : Int)] rfl rfl (World.news_of_block (cs := #[.int .u8 (b1.toNat : Int)]) (heap_alloc_new u4 _)) (by simp [Value.oneCell']) (by omega) (by unfold maxLen; omega) (by omega) (by have := HB4.out.size; simp; omega) (u4.heap.size + 1) (by simp) ?_)
  intro g5 cap5 u5 hown hgrow hat hlt
  have T5 : Hid (u5.ownsRow w.heap.size 5 1 (.slice (some ⟨g5, 0, none⟩) 5 cap5) 5 (bcells [b5, b4, b3, b2, b1])) := Lib.hid hown
  have HB5 := Lib.hid ((HB4.out.alloc HB4.out.size _).grown hgrow (by have := HB4.out.size; simp; omega) (fun j hj => (T4.out.lt j hj).1))
  clear hown hgrow hat hlt hcell
  go_wp2
  rw [rounds_succ]
  obtain ⟨b, off, hao, hcell⟩ := (HV.out.on HB5.out).at 0 (by simp)
  cases hao
  simp at hcell
  go_wp2_with (at_builtin; refine wpList_append_lies _ rfl _ _ 22 rfl w.heap.size 5 i0 _ 1 1 Tryd.underlying22 hi0 hz0 hz1 hz2 rfl (by omega) _ 5 (bcells [b5, b4, b3, b2, b1]) rfl (T5.out.alloc _) ⟨u5.heap.size, 0, none⟩ 1 1 [.int .u8 (b0.toNat : Int)] rfl rfl (World.news_of_block (cs := #[.int .u8 (b0.toNat : Int)]) (heap_alloc_new u5 _)) (by simp [Value.oneCell']) (by omega) (by unfold maxLen; omega) (by omega) (by have := HB5.out.size; simp; omega) (u5.heap.size + 1) (by simp) ?_)
  intro g6 cap6 u6 hown hgrow hat hlt
  have T6 : Hid (u6.ownsRow w.heap.size 5 1 (.slice (some ⟨g6, 0, none⟩) 6 cap6) 6 (bcells [b5, b4, b3, b2, b1, b0])) := Lib.hid hown
  have HB6 := Lib.hid ((HB5.out.alloc HB5.out.size _).grown hgrow (by have := HB5.out.size; simp; omega) (fun j hj => (T5.out.lt j hj).1))
  clear hown hgrow hat hlt hcell
  go_wp2
  rw [rounds_succ]
  go_wp2_with fail
  refine (new_reader _ _ u6 (HV.out.on HB6.out) (by simp)).mono ?_
  rintro e wp ⟨p, vp, rfl, hp, hb⟩
  have HBp := Lib.hid (HB6.out.trans (hb.mono HB6.out.size))
  have HP := Lib.hid hp
  have TB := Lib.hid ((bytesAt_own (l := [b5, b4, b3, b2, b1, b0]) T6.out).on hb)
  have hpl : p < wp.heap.size := hp.lt
  have hpb : w.heap.size ≤ p := Nat.le_trans HB6.out.size hp.base
  clear hp hb
  go_wp2_with fail
  refine (new_reader _ _ wp TB.out (by simp)).mono ?_
  rintro e wq ⟨q, vq, rfl, hq, hb⟩
  have HBq := Lib.hid (HBp.out.trans (hb.mono HBp.out.size))
  have HPq := Lib.hid (HP.out.on hb)
  have HQ := Lib.hid hq
  have hql : q < wq.heap.size := hq.lt
  have hqb : w.heap.size ≤ q := Nat.le_trans HBp.out.size hq.base
  clear hq hb
  go_wp2_with fail
  refine (new_reader _ _ wq (HV.out.on HBq.out) (by simp)).mono ?_
  rintro e ws ⟨s, vs, rfl, hs, hb⟩
  have HBs := Lib.hid (HBq.out.trans (hb.mono HBq.out.size))
  have HPs := Lib.hid (HPq.out.on hb)
  have HQs := Lib.hid (HQ.out.on hb)
  have HS := Lib.hid hs
  have hsb : w.heap.size ≤ s := Nat.le_trans HBq.out.size hs.base
  clear hs hb
  go_wp2_with fail
  refine (u_ok _ p vp _ 0 6 ws HPs.out (by decide) (by decide) (by simp)).mono ?_
  rintro e x1 ⟨rfl, _, ho⟩
  have HQ1 := Lib.hid (HQs.out.up ho (fun k e => by subst e; exact hpl))
  have HS1 := Lib.hid (HS.out.up ho (fun k e => by subst e; have := HQ.out.lt; have := HQ.out.base; omega))
  have HBx1 := Lib.hid (HBs.out.trans (ho.below HBs.out.size (fun k e => by subst e; exact hpb)))
  clear ho
  rw [show ((leNum (List.take 6 (List.drop 0 [b0, b1, b2, b3, b4, b5])) : Nat) : Int) = z from HN.out.1]
  go_wp2_with fail
  refine (b_ok _ q vq _ 0 6 x1 HQ1.out (by decide) (by decide) (by simp)).mono ?_
  rintro e x2 ⟨rfl, _, ho⟩
  have HS2 := Lib.hid (HS1.out.up ho (fun k e => by subst e; exact hql))
  have HBx2 := Lib.hid (HBx1.out.trans (ho.below HBx1.out.size (fun k e => by subst e; exact hqb)))
  clear ho
  rw [show ((leNum (List.take 6 (List.drop 0 [b5, b4, b3, b2, b1, b0])).reverse : Nat) : Int) = z from HN.out.1]
  go_wp2_with fail
  refine (i_ok _ s vs _ 0 6 x2 HS2.out (by decide) (by decide) (by simp)).mono ?_
  rintro e x3 ⟨rfl, _, ho⟩
  have HBx3 := Lib.hid (HBx2.out.trans (ho.below HBx2.out.size (fun k e => by subst e; exact hsb)))
  clear ho
  rw [show sgnNum 6 (leNum (List.take 6 (List.drop 0 [b0, b1, b2, b3, b4, b5]))) = z from HN.out.2]
  go_wp2_with fail
  refine (first_any x3 (HG.out.up HBx3.out)).mono ?_
  rintro e x4 ⟨rfl, hb⟩
  have HBx4 := Lib.hid (HBx3.out.trans (hb.mono HBx3.out.size))
  clear hb
  go_wp2
  go_ret
  exact ⟨rfl, HBx4.out⟩

theorem turns6 (b0 b1 b2 b3 b4 b5 : UInt8) (v : Value) (w : World) (hv : BytesAt w v [b0, b1, b2, b3, b4, b5]) (hg : ErrT w) :
    Calls Tryd.prog 6 #[v] w fun e w' => e = .returned (.bool true) ∧ Below w.heap.size w w' := by
  have l0 := byte_lt b0
  have l1 := byte_lt b1
  have l2 := byte_lt b2
  have l3 := byte_lt b3
  have l4 := byte_lt b4
  have l5 := byte_lt b5
  by_cases hh : 140737488355328 ≤ b0.toNat + 256 * (b1.toNat + 256 * (b2.toNat + 256 * (b3.toNat + 256 * (b4.toNat + 256 * (b5.toNat + 256 * (0))))))
  · exact turns6a b0 b1 b2 b3 b4 b5 v ((b0.toNat + 256 * (b1.toNat + 256 * (b2.toNat + 256 * (b3.toNat + 256 * (b4.toNat + 256 * (b5.toNat + 256 * (0)))))) : Nat) : Int) w hv hg rfl (by unfold sgnNum; rw [show leNum [b0, b1, b2, b3, b4, b5] = b0.toNat + 256 * (b1.toNat + 256 * (b2.toNat + 256 * (b3.toNat + 256 * (b4.toNat + 256 * (b5.toNat + 256 * (0)))))) from rfl, if_pos (by omega)]; rfl) (by omega) (by omega) (by omega)
  · exact turns6b b0 b1 b2 b3 b4 b5 v ((b0.toNat + 256 * (b1.toNat + 256 * (b2.toNat + 256 * (b3.toNat + 256 * (b4.toNat + 256 * (b5.toNat + 256 * (0)))))) : Nat) : Int) w hv hg rfl (by unfold sgnNum; rw [show leNum [b0, b1, b2, b3, b4, b5] = b0.toNat + 256 * (b1.toNat + 256 * (b2.toNat + 256 * (b3.toNat + 256 * (b4.toNat + 256 * (b5.toNat + 256 * (0)))))) from rfl, if_neg (by omega)]) (by omega) (by omega) (by omega)

set_option maxRecDepth 100000 in
theorem turns_out (v : Value) (l : List UInt8) (w : World) (hv : BytesAt w v l) (hg : ErrT w) (hl : l.length < 1 ∨ 6 < l.length) (hm : l.length ≤ maxLen) :
    Calls Tryd.prog 6 #[v] w fun e w' => e = .returned (.bool true) ∧ Below w.heap.size w w' := by
  have HG := Lib.hid hg
  obtain ⟨ao, cap, rfl, _⟩ := hv
  unfold maxLen at hm
  clear hg
  rcases hl with hl | hl
  · go_enter Tryd.func6, Tryd.ntmps6
    go_wp2_with fail
    refine (first_any w HG.out).mono ?_
    rintro e w1 ⟨rfl, hb⟩
    have HB1 := Lib.hid hb
    clear hb
    go_wp2_with fail
    refine (first_any w1 (HG.out.up HB1.out)).mono ?_
    rintro e w2 ⟨rfl, hb⟩
    have HB2 := Lib.hid (HB1.out.trans (hb.mono HB1.out.size))
    clear hb
    go_wp2
    go_ret
    exact ⟨rfl, HB2.out⟩
  · go_enter Tryd.func6, Tryd.ntmps6
    go_wp2_with fail
    refine (first_any w HG.out).mono ?_
    rintro e w1 ⟨rfl, hb⟩
    have HB1 := Lib.hid hb
    clear hb
    go_wp2_with fail
    refine (first_any w1 (HG.out.up HB1.out)).mono ?_
    rintro e w2 ⟨rfl, hb⟩
    have HB2 := Lib.hid (HB1.out.trans (hb.mono HB1.out.size))
    clear hb
    go_wp2
    go_ret
    exact ⟨rfl, HB2.out⟩
theorem turns_any (v : Value) (l : List UInt8) (w : World) (hv : BytesAt w v l) (hg : ErrT w) (hm : l.length ≤ maxLen) :
    Calls Tryd.prog 6 #[v] w fun e w' => e = .returned (.bool true) ∧ Below w.heap.size w w' := by
  match l, hv, hm with
  | [], hv, hm => exact turns_out v _ w hv hg (.inl (by simp)) hm
  | [b0], hv, _ => exact turns1 b0 v w hv hg
  | [b0, b1], hv, _ => exact turns2 b0 b1 v w hv hg
  | [b0, b1, b2], hv, _ => exact turns3 b0 b1 b2 v w hv hg
  | [b0, b1, b2, b3], hv, _ => exact turns4 b0 b1 b2 b3 v w hv hg
  | [b0, b1, b2, b3, b4], hv, _ => exact turns5 b0 b1 b2 b3 b4 v w hv hg
  | [b0, b1, b2, b3, b4, b5], hv, _ => exact turns6 b0 b1 b2 b3 b4 b5 v w hv hg
  | _ :: _ :: _ :: _ :: _ :: _ :: _ :: _, hv, hm => exact turns_out v _ w hv hg (.inr (by simp)) hm
end Go.Proofs.YtpdngcjgfngnjaaDoor
