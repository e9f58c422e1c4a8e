/- yardlaw2.WireParts answers true for every row of bytes; memory that was there stands. -/
import Derived.Test.YtpdngcjgfngnjaaDoorThree
namespace Go.Proofs.YtpdngcjgfngnjaaDoor
open Go.RowKit Go.Extern.Stop Go.Stop Go.Extern

theorem BytesAt.at {w : World} {ao : Option Addr} {n cap : Nat} {l : List UInt8} (h : BytesAt w (.slice ao n cap) l) (i : Nat) (hi : i < l.length) : ∃ b off, ao = some ⟨b, off, none⟩ ∧ w.cell? ⟨b, off + i, none⟩ = some (.int .u8 (l[i].toNat : Int)) := by
  obtain ⟨ao', cap', e, hc⟩ := h
  simp only [Value.slice.injEq] at e
  obtain ⟨rfl, _, _⟩ := e
  exact hc i hi

set_option maxRecDepth 100000 in
set_option maxHeartbeats 4000000 in
theorem parts1 (b0 : UInt8) (v : Value) (w : World) (hv : BytesAt w v [b0]) (hg : ErrT w) :
    Calls Tryd.prog 8 #[v] w fun e w' => e = .returned (.bool true) ∧ Below w.heap.size w w' := by
  have HG := Lib.hid hg
  have HV := Lib.hid hv
  obtain ⟨ao, cap, rfl, hc0⟩ := hv
  have HC := Lib.hid hc0
  have l0 := byte_lt b0
  clear hg hc0
  go_enter Tryd.func8, Tryd.ntmps8
  go_wp2_with fail
  refine (first_any w HG.out).mono ?_
  rintro e w1 ⟨rfl, hb⟩
  have HB1 := Lib.hid hb
  clear hb
  go_wp2_with fail
  refine (new_reader _ _ w1 (HV.out.on HB1.out) (by simp)).mono ?_
  rintro e w2 ⟨r, vr, rfl, hr, hb⟩
  have HB2 := Lib.hid (HB1.out.trans (hb.mono HB1.out.size))
  have HR := Lib.hid hr
  have hrl : r < w2.heap.size := hr.lt
  have hrb : w.heap.size ≤ r := Nat.le_trans HB1.out.size hr.base
  clear hr hb
  go_wp2_with fail
  refine (new_reader _ _ w2 (HV.out.on HB2.out) (by simp)).mono ?_
  rintro e w3 ⟨s, vs, rfl, hs, hb⟩
  have HB3 := Lib.hid (HB2.out.trans (hb.mono HB2.out.size))
  have HR3 := Lib.hid (HR.out.on hb)
  have HS3 := Lib.hid hs
  have hsb : w.heap.size ≤ s := Nat.le_trans HB2.out.size hs.base
  have hrs : r ≠ s := by have := hs.base; omega
  clear hs hb
  go_wp2_with fail
  refine (u_ok _ r vr _ 0 1 w3 HR3.out (by decide) (by decide) (by simp)).mono ?_
  rintro e w4 ⟨rfl, hr, ho⟩
  have HR4 := Lib.hid hr
  have HS4 := Lib.hid (HS3.out.up ho (fun k e => by subst e; exact hrl))
  have HB4 := Lib.hid (HB3.out.trans (ho.below HB3.out.size (fun k e => by subst e; exact hrb)))
  clear hr ho
  rw [show leNum (List.take 1 (List.drop 0 [b0])) = b0.toNat + 256 * (0) by rfl]
  go_wp2
  refine wp_loop_rounds 2 ?_
  rw [rounds_succ]
  go_wp2_with fail
  refine (u_ok _ s vs _ 0 1 w4 HS4.out (by decide) (by decide) (by simp)).mono ?_
  rintro e w5 ⟨rfl, hr, ho⟩
  have HS5 := Lib.hid hr
  have HR5 := Lib.hid (HR4.out.off ho hrs (fun k hk e => by subst e; exact row_no HR4.out.own HS4.out.obj (by decide) hk))
  have HB5 := Lib.hid (HB4.out.trans (ho.below HB4.out.size (fun k e => by subst e; exact hsb)))
  clear hr ho
  rw [show leNum (List.take 1 (List.drop 0 [b0])) = b0.toNat by simp [leNum]]
  obtain ⟨b, off, hao, hcell⟩ := (HV.out.on HB5.out).at 0 (by simp)
  cases hao
  simp at hcell
  go_wp2
  rw [rounds_succ]
  go_wp2_with fail
  refine (first_any w5 (HG.out.up HB5.out)).mono ?_
  rintro e wa ⟨rfl, hb⟩
  have HBa := Lib.hid (HB5.out.trans (hb.mono HB5.out.size))
  have HRa := Lib.hid (HR5.out.on hb)
  have HSa := Lib.hid (HS5.out.on hb)
  clear hb
  go_wp2_with fail
  refine (left_any _ r vr _ _ wa HRa.out).mono ?_
  rintro e wb ⟨rfl, hb⟩
  have HBb := Lib.hid (HBa.out.trans (hb.mono HBa.out.size))
  have HSb := Lib.hid (HSa.out.on hb)
  clear hb
  rw [show [b0].length - (0 + 1) = 0 by simp]
  go_wp2_with fail
  refine (place_any _ s vs _ _ wb HSb.out).mono ?_
  rintro e wc ⟨rfl, rfl⟩
  go_wp2
  go_ret
  exact ⟨rfl, HBb.out⟩

set_option maxRecDepth 100000 in
set_option maxHeartbeats 4000000 in
theorem parts2 (b0 b1 : UInt8) (v : Value) (w : World) (hv : BytesAt w v [b0, b1]) (hg : ErrT w) :
    Calls Tryd.prog 8 #[v] w fun e w' => e = .returned (.bool true) ∧ Below w.heap.size w w' := by
  have HG := Lib.hid hg
  have HV := Lib.hid hv
  obtain ⟨ao, cap, rfl, hc0⟩ := hv
  have HC := Lib.hid hc0
  have l0 := byte_lt b0
  have l1 := byte_lt b1
  clear hg hc0
  go_enter Tryd.func8, Tryd.ntmps8
  go_wp2_with fail
  refine (first_any w HG.out).mono ?_
  rintro e w1 ⟨rfl, hb⟩
  have HB1 := Lib.hid hb
  clear hb
  go_wp2_with fail
  refine (new_reader _ _ w1 (HV.out.on HB1.out) (by simp)).mono ?_
  rintro e w2 ⟨r, vr, rfl, hr, hb⟩
  have HB2 := Lib.hid (HB1.out.trans (hb.mono HB1.out.size))
  have HR := Lib.hid hr
  have hrl : r < w2.heap.size := hr.lt
  have hrb : w.heap.size ≤ r := Nat.le_trans HB1.out.size hr.base
  clear hr hb
  go_wp2_with fail
  refine (new_reader _ _ w2 (HV.out.on HB2.out) (by simp)).mono ?_
  rintro e w3 ⟨s, vs, rfl, hs, hb⟩
  have HB3 := Lib.hid (HB2.out.trans (hb.mono HB2.out.size))
  have HR3 := Lib.hid (HR.out.on hb)
  have HS3 := Lib.hid hs
  have hsb : w.heap.size ≤ s := Nat.le_trans HB2.out.size hs.base
  have hrs : r ≠ s := by have := hs.base; omega
  clear hs hb
  go_wp2_with fail
  refine (u_ok _ r vr _ 0 2 w3 HR3.out (by decide) (by decide) (by simp)).mono ?_
  rintro e w4 ⟨rfl, hr, ho⟩
  have HR4 := Lib.hid hr
  have HS4 := Lib.hid (HS3.out.up ho (fun k e => by subst e; exact hrl))
  have HB4 := Lib.hid (HB3.out.trans (ho.below HB3.out.size (fun k e => by subst e; exact hrb)))
  clear hr ho
  rw [show leNum (List.take 2 (List.drop 0 [b0, b1])) = b0.toNat + 256 * (b1.toNat + 256 * (0)) by rfl]
  go_wp2
  refine wp_loop_rounds 3 ?_
  rw [rounds_succ]
  go_wp2_with fail
  refine (u_ok _ s vs _ 0 1 w4 HS4.out (by decide) (by decide) (by simp)).mono ?_
  rintro e w5 ⟨rfl, hr, ho⟩
  have HS5 := Lib.hid hr
  have HR5 := Lib.hid (HR4.out.off ho hrs (fun k hk e => by subst e; exact row_no HR4.out.own HS4.out.obj (by decide) hk))
  have HB5 := Lib.hid (HB4.out.trans (ho.below HB4.out.size (fun k e => by subst e; exact hsb)))
  clear hr ho
  rw [show leNum (List.take 1 (List.drop 0 [b0, b1])) = b0.toNat by simp [leNum]]
  obtain ⟨b, off, hao, hcell⟩ := (HV.out.on HB5.out).at 0 (by simp)
  cases hao
  simp at hcell
  go_wp2
  rw [rounds_succ]
  go_wp2_with fail
  refine (u_ok _ s vs _ 1 1 w5 HS5.out (by decide) (by decide) (by simp)).mono ?_
  rintro e w6 ⟨rfl, hr, ho⟩
  have HS6 := Lib.hid hr
  have HR6 := Lib.hid (HR5.out.off ho hrs (fun k hk e => by subst e; exact row_no HR5.out.own HS5.out.obj (by decide) hk))
  have HB6 := Lib.hid (HB5.out.trans (ho.below HB5.out.size (fun k e => by subst e; exact hsb)))
  clear hr ho
  rw [show leNum (List.take 1 (List.drop 1 [b0, b1])) = b1.toNat by simp [leNum]]
  obtain ⟨b, off, hao, hcell⟩ := (HV.out.on HB6.out).at 1 (by simp)
  cases hao
  simp at hcell
  go_wp2
  rw [rounds_succ]
  go_wp2_with fail
  refine (first_any w6 (HG.out.up HB6.out)).mono ?_
  rintro e wa ⟨rfl, hb⟩
  have HBa := Lib.hid (HB6.out.trans (hb.mono HB6.out.size))
  have HRa := Lib.hid (HR6.out.on hb)
  have HSa := Lib.hid (HS6.out.on hb)
  clear hb
  go_wp2_with fail
  refine (left_any _ r vr _ _ wa HRa.out).mono ?_
  rintro e wb ⟨rfl, hb⟩
  have HBb := Lib.hid (HBa.out.trans (hb.mono HBa.out.size))
  have HSb := Lib.hid (HSa.out.on hb)
  clear hb
  rw [show [b0, b1].length - (0 + 2) = 0 by simp]
  go_wp2_with fail
  refine (place_any _ s vs _ _ wb HSb.out).mono ?_
  rintro e wc ⟨rfl, rfl⟩
  go_wp2
  go_ret
  exact ⟨rfl, HBb.out⟩

set_option maxRecDepth 100000 in
set_option maxHeartbeats 4000000 in
theorem parts3 (b0 b1 b2 : UInt8) (v : Value) (w : World) (hv : BytesAt w v [b0, b1, b2]) (hg : ErrT w) :
    Calls Tryd.prog 8 #[v] w fun e w' => e = .returned (.bool true) ∧ Below w.heap.size w w' := by
  have HG := Lib.hid hg
  have HV := Lib.hid hv
  obtain ⟨ao, cap, rfl, hc0⟩ := hv
  have HC := Lib.hid hc0
  have l0 := byte_lt b0
  have l1 := byte_lt b1
  have l2 := byte_lt b2
  clear hg hc0
  go_enter Tryd.func8, Tryd.ntmps8
  go_wp2_with fail
  refine (first_any w HG.out).mono ?_
  rintro e w1 ⟨rfl, hb⟩
  have HB1 := Lib.hid hb
  clear hb
  go_wp2_with fail
  refine (new_reader _ _ w1 (HV.out.on HB1.out) (by simp)).mono ?_
  rintro e w2 ⟨r, vr, rfl, hr, hb⟩
  have HB2 := Lib.hid (HB1.out.trans (hb.mono HB1.out.size))
  have HR := Lib.hid hr
  have hrl : r < w2.heap.size := hr.lt
  have hrb : w.heap.size ≤ r := Nat.le_trans HB1.out.size hr.base
  clear hr hb
  go_wp2_with fail
  refine (new_reader _ _ w2 (HV.out.on HB2.out) (by simp)).mono ?_
  rintro e w3 ⟨s, vs, rfl, hs, hb⟩
  have HB3 := Lib.hid (HB2.out.trans (hb.mono HB2.out.size))
  have HR3 := Lib.hid (HR.out.on hb)
  have HS3 := Lib.hid hs
  have hsb : w.heap.size ≤ s := Nat.le_trans HB2.out.size hs.base
  have hrs : r ≠ s := by have := hs.base; omega
  clear hs hb
  go_wp2_with fail
  refine (u_ok _ r vr _ 0 3 w3 HR3.out (by decide) (by decide) (by simp)).mono ?_
  rintro e w4 ⟨rfl, hr, ho⟩
  have HR4 := Lib.hid hr
  have HS4 := Lib.hid (HS3.out.up ho (fun k e => by subst e; exact hrl))
  have HB4 := Lib.hid (HB3.out.trans (ho.below HB3.out.size (fun k e => by subst e; exact hrb)))
  clear hr ho
  rw [show leNum (List.take 3 (List.drop 0 [b0, b1, b2])) = b0.toNat + 256 * (b1.toNat + 256 * (b2.toNat + 256 * (0))) by rfl]
  go_wp2
  refine wp_loop_rounds 4 ?_
  rw [rounds_succ]
  go_wp2_with fail
  refine (u_ok _ s vs _ 0 1 w4 HS4.out (by decide) (by decide) (by simp)).mono ?_
  rintro e w5 ⟨rfl, hr, ho⟩
  have HS5 := Lib.hid hr
  have HR5 := Lib.hid (HR4.out.off ho hrs (fun k hk e => by subst e; exact row_no HR4.out.own HS4.out.obj (by decide) hk))
  have HB5 := Lib.hid (HB4.out.trans (ho.below HB4.out.size (fun k e => by subst e; exact hsb)))
  clear hr ho
  rw [show leNum (List.take 1 (List.drop 0 [b0, b1, b2])) = b0.toNat by simp [leNum]]
  obtain ⟨b, off, hao, hcell⟩ := (HV.out.on HB5.out).at 0 (by simp)
  cases hao
  simp at hcell
  go_wp2
  rw [rounds_succ]
  go_wp2_with fail
  refine (u_ok _ s vs _ 1 1 w5 HS5.out (by decide) (by decide) (by simp)).mono ?_
  rintro e w6 ⟨rfl, hr, ho⟩
  have HS6 := Lib.hid hr
  have HR6 := Lib.hid (HR5.out.off ho hrs (fun k hk e => by subst e; exact row_no HR5.out.own HS5.out.obj (by decide) hk))
  have HB6 := Lib.hid (HB5.out.trans (ho.below HB5.out.size (fun k e => by subst e; exact hsb)))
  clear hr ho
  rw [show leNum (List.take 1 (List.drop 1 [b0, b1, b2])) = b1.toNat by simp [leNum]]
  obtain ⟨b, off, hao, hcell⟩ := (HV.out.on HB6.out).at 1 (by simp)
  cases hao
  simp at hcell
  go_wp2
  rw [rounds_succ]
  go_wp2_with fail
  refine (u_ok _ s vs _ 2 1 w6 HS6.out (by decide) (by decide) (by simp)).mono ?_
  rintro e w7 ⟨rfl, hr, ho⟩
  have HS7 := Lib.hid hr
  have HR7 := Lib.hid (HR6.out.off ho hrs (fun k hk e => by subst e; exact row_no HR6.out.own HS6.out.obj (by decide) hk))
  have HB7 := Lib.hid (HB6.out.trans (ho.below HB6.out.size (fun k e => by subst e; exact hsb)))
  clear hr ho
  rw [show leNum (List.take 1 (List.drop 2 [b0, b1, b2])) = b2.toNat by simp [leNum]]
  obtain ⟨b, off, hao, hcell⟩ := (HV.out.on HB7.out).at 2 (by simp)
  cases hao
  simp at hcell
  go_wp2
  rw [rounds_succ]
  go_wp2_with fail
  refine (first_any w7 (HG.out.up HB7.out)).mono ?_
  rintro e wa ⟨rfl, hb⟩
  have HBa := Lib.hid (HB7.out.trans (hb.mono HB7.out.size))
  have HRa := Lib.hid (HR7.out.on hb)
  have HSa := Lib.hid (HS7.out.on hb)
  clear hb
  go_wp2_with fail
  refine (left_any _ r vr _ _ wa HRa.out).mono ?_
  rintro e wb ⟨rfl, hb⟩
  have HBb := Lib.hid (HBa.out.trans (hb.mono HBa.out.size))
  have HSb := Lib.hid (HSa.out.on hb)
  clear hb
  rw [show [b0, b1, b2].length - (0 + 3) = 0 by simp]
  go_wp2_with fail
  refine (place_any _ s vs _ _ wb HSb.out).mono ?_
  rintro e wc ⟨rfl, rfl⟩
  go_wp2
  go_ret
  exact ⟨rfl, HBb.out⟩

set_option maxRecDepth 100000 in
set_option maxHeartbeats 4000000 in
theorem parts4 (b0 b1 b2 b3 : UInt8) (v : Value) (w : World) (hv : BytesAt w v [b0, b1, b2, b3]) (hg : ErrT w) :
    Calls Tryd.prog 8 #[v] w fun e w' => e = .returned (.bool true) ∧ Below w.heap.size w w' := by
  have HG := Lib.hid hg
  have HV := Lib.hid hv
  obtain ⟨ao, cap, rfl, hc0⟩ := hv
  have HC := Lib.hid hc0
  have l0 := byte_lt b0
  have l1 := byte_lt b1
  have l2 := byte_lt b2
  have l3 := byte_lt b3
  clear hg hc0
  go_enter Tryd.func8, Tryd.ntmps8
  go_wp2_with fail
  refine (first_any w HG.out).mono ?_
  rintro e w1 ⟨rfl, hb⟩
  have HB1 := Lib.hid hb
  clear hb
  go_wp2_with fail
  refine (new_reader _ _ w1 (HV.out.on HB1.out) (by simp)).mono ?_
  rintro e w2 ⟨r, vr, rfl, hr, hb⟩
  have HB2 := Lib.hid (HB1.out.trans (hb.mono HB1.out.size))
  have HR := Lib.hid hr
  have hrl : r < w2.heap.size := hr.lt
  have hrb : w.heap.size ≤ r := Nat.le_trans HB1.out.size hr.base
  clear hr hb
  go_wp2_with fail
  refine (new_reader _ _ w2 (HV.out.on HB2.out) (by simp)).mono ?_
  rintro e w3 ⟨s, vs, rfl, hs, hb⟩
  have HB3 := Lib.hid (HB2.out.trans (hb.mono HB2.out.size))
  have HR3 := Lib.hid (HR.out.on hb)
  have HS3 := Lib.hid hs
  have hsb : w.heap.size ≤ s := Nat.le_trans HB2.out.size hs.base
  have hrs : r ≠ s := by have := hs.base; omega
  clear hs hb
  go_wp2_with fail
  refine (u_ok _ r vr _ 0 4 w3 HR3.out (by decide) (by decide) (by simp)).mono ?_
  rintro e w4 ⟨rfl, hr, ho⟩
  have HR4 := Lib.hid hr
  have HS4 := Lib.hid (HS3.out.up ho (fun k e => by subst e; exact hrl))
  have HB4 := Lib.hid (HB3.out.trans (ho.below HB3.out.size (fun k e => by subst e; exact hrb)))
  clear hr ho
  rw [show leNum (List.take 4 (List.drop 0 [b0, b1, b2, b3])) = b0.toNat + 256 * (b1.toNat + 256 * (b2.toNat + 256 * (b3.toNat + 256 * (0)))) by rfl]
  go_wp2
  refine wp_loop_rounds 5 ?_
  rw [rounds_succ]
  go_wp2_with fail
  refine (u_ok _ s vs _ 0 1 w4 HS4.out (by decide) (by decide) (by simp)).mono ?_
  rintro e w5 ⟨rfl, hr, ho⟩
  have HS5 := Lib.hid hr
  have HR5 := Lib.hid (HR4.out.off ho hrs (fun k hk e => by subst e; exact row_no HR4.out.own HS4.out.obj (by decide) hk))
  have HB5 := Lib.hid (HB4.out.trans (ho.below HB4.out.size (fun k e => by subst e; exact hsb)))
  clear hr ho
  rw [show leNum (List.take 1 (List.drop 0 [b0, b1, b2, b3])) = b0.toNat by simp [leNum]]
  obtain ⟨b, off, hao, hcell⟩ := (HV.out.on HB5.out).at 0 (by simp)
  cases hao
  simp at hcell
  go_wp2
  rw [rounds_succ]
  go_wp2_with fail
  refine (u_ok _ s vs _ 1 1 w5 HS5.out (by decide) (by decide) (by simp)).mono ?_
  rintro e w6 ⟨rfl, hr, ho⟩
  have HS6 := Lib.hid hr
  have HR6 := Lib.hid (HR5.out.off ho hrs (fun k hk e => by subst e; exact row_no HR5.out.own HS5.out.obj (by decide) hk))
  have HB6 := Lib.hid (HB5.out.trans (ho.below HB5.out.size (fun k e => by subst e; exact hsb)))
  clear hr ho
  rw [show leNum (List.take 1 (List.drop 1 [b0, b1, b2, b3])) = b1.toNat by simp [leNum]]
  obtain ⟨b, off, hao, hcell⟩ := (HV.out.on HB6.out).at 1 (by simp)
  cases hao
  simp at hcell
  go_wp2
  rw [rounds_succ]
  go_wp2_with fail
  refine (u_ok _ s vs _ 2 1 w6 HS6.out (by decide) (by decide) (by simp)).mono ?_
  rintro e w7 ⟨rfl, hr, ho⟩
  have HS7 := Lib.hid hr
  have HR7 := Lib.hid (HR6.out.off ho hrs (fun k hk e => by subst e; exact row_no HR6.out.own HS6.out.obj (by decide) hk))
  have HB7 := Lib.hid (HB6.out.trans (ho.below HB6.out.size (fun k e => by subst e; exact hsb)))
  clear hr ho
  rw [show leNum (List.take 1 (List.drop 2 [b0, b1, b2, b3])) = b2.toNat by simp [leNum]]
  obtain ⟨b, off, hao, hcell⟩ := (HV.out.on HB7.out).at 2 (by simp)
  cases hao
  simp at hcell
  go_wp2
  rw [rounds_succ]
  go_wp2_with fail
  refine (u_ok _ s vs _ 3 1 w7 HS7.out (by decide) (by decide) (by simp)).mono ?_
  rintro e w8 ⟨rfl, hr, ho⟩
  have HS8 := Lib.hid hr
  have HR8 := Lib.hid (HR7.out.off ho hrs (fun k hk e => by subst e; exact row_no HR7.out.own HS7.out.obj (by decide) hk))
  have HB8 := Lib.hid (HB7.out.trans (ho.below HB7.out.size (fun k e => by subst e; exact hsb)))
  clear hr ho
  rw [show leNum (List.take 1 (List.drop 3 [b0, b1, b2, b3])) = b3.toNat by simp [leNum]]
  obtain ⟨b, off, hao, hcell⟩ := (HV.out.on HB8.out).at 3 (by simp)
  cases hao
  simp at hcell
  go_wp2
  rw [rounds_succ]
  go_wp2_with fail
  refine (first_any w8 (HG.out.up HB8.out)).mono ?_
  rintro e wa ⟨rfl, hb⟩
  have HBa := Lib.hid (HB8.out.trans (hb.mono HB8.out.size))
  have HRa := Lib.hid (HR8.out.on hb)
  have HSa := Lib.hid (HS8.out.on hb)
  clear hb
  go_wp2_with fail
  refine (left_any _ r vr _ _ wa HRa.out).mono ?_
  rintro e wb ⟨rfl, hb⟩
  have HBb := Lib.hid (HBa.out.trans (hb.mono HBa.out.size))
  have HSb := Lib.hid (HSa.out.on hb)
  clear hb
  rw [show [b0, b1, b2, b3].length - (0 + 4) = 0 by simp]
  go_wp2_with fail
  refine (place_any _ s vs _ _ wb HSb.out).mono ?_
  rintro e wc ⟨rfl, rfl⟩
  go_wp2
  go_ret
  exact ⟨rfl, HBb.out⟩

set_option maxRecDepth 100000 in
set_option maxHeartbeats 4000000 in
theorem parts5 (b0 b1 b2 b3 b4 : UInt8) (v : Value) (w : World) (hv : BytesAt w v [b0, b1, b2, b3, b4]) (hg : ErrT w) :
    Calls Tryd.prog 8 #[v] w fun e w' => e = .returned (.bool true) ∧ Below w.heap.size w w' := by
  have HG := Lib.hid hg
  have HV := Lib.hid hv
  obtain ⟨ao, cap, rfl, hc0⟩ := hv
  have HC := Lib.hid hc0
  have l0 := byte_lt b0
  have l1 := byte_lt b1
  have l2 := byte_lt b2
  have l3 := byte_lt b3
  have l4 := byte_lt b4
  clear hg hc0
  go_enter Tryd.func8, Tryd.ntmps8
  go_wp2_with fail
  refine (first_any w HG.out).mono ?_
  rintro e w1 ⟨rfl, hb⟩
  have HB1 := Lib.hid hb
  clear hb
  go_wp2_with fail
  refine (new_reader _ _ w1 (HV.out.on HB1.out) (by simp)).mono ?_
  rintro e w2 ⟨r, vr, rfl, hr, hb⟩
  have HB2 := Lib.hid (HB1.out.trans (hb.mono HB1.out.size))
  have HR := Lib.hid hr
  have hrl : r < w2.heap.size := hr.lt
  have hrb : w.heap.size ≤ r := Nat.le_trans HB1.out.size hr.base
  clear hr hb
  go_wp2_with fail
  refine (new_reader _ _ w2 (HV.out.on HB2.out) (by simp)).mono ?_
  rintro e w3 ⟨s, vs, rfl, hs, hb⟩
  have HB3 := Lib.hid (HB2.out.trans (hb.mono HB2.out.size))
  have HR3 := Lib.hid (HR.out.on hb)
  have HS3 := Lib.hid hs
  have hsb : w.heap.size ≤ s := Nat.le_trans HB2.out.size hs.base
  have hrs : r ≠ s := by have := hs.base; omega
  clear hs hb
  go_wp2_with fail
  refine (u_ok _ r vr _ 0 5 w3 HR3.out (by decide) (by decide) (by simp)).mono ?_
  rintro e w4 ⟨rfl, hr, ho⟩
  have HR4 := Lib.hid hr
  have HS4 := Lib.hid (HS3.out.up ho (fun k e => by subst e; exact hrl))
  have HB4 := Lib.hid (HB3.out.trans (ho.below HB3.out.size (fun k e => by subst e; exact hrb)))
  clear hr ho
  rw [show leNum (List.take 5 (List.drop 0 [b0, b1, b2, b3, b4])) = b0.toNat + 256 * (b1.toNat + 256 * (b2.toNat + 256 * (b3.toNat + 256 * (b4.toNat + 256 * (0))))) by rfl]
  go_wp2
  refine wp_loop_rounds 6 ?_
  rw [rounds_succ]
  go_wp2_with fail
  refine (u_ok _ s vs _ 0 1 w4 HS4.out (by decide) (by decide) (by simp)).mono ?_
  rintro e w5 ⟨rfl, hr, ho⟩
  have HS5 := Lib.hid hr
  have HR5 := Lib.hid (HR4.out.off ho hrs (fun k hk e => by subst e; exact row_no HR4.out.own HS4.out.obj (by decide) hk))
  have HB5 := Lib.hid (HB4.out.trans (ho.below HB4.out.size (fun k e => by subst e; exact hsb)))
  clear hr ho
  rw [show leNum (List.take 1 (List.drop 0 [b0, b1, b2, b3, b4])) = b0.toNat by simp [leNum]]
  obtain ⟨b, off, hao, hcell⟩ := (HV.out.on HB5.out).at 0 (by simp)
  cases hao
  simp at hcell
  go_wp2
  rw [rounds_succ]
  go_wp2_with fail
  refine (u_ok _ s vs _ 1 1 w5 HS5.out (by decide) (by decide) (by simp)).mono ?_
  rintro e w6 ⟨rfl, hr, ho⟩
  have HS6 := Lib.hid hr
  have HR6 := Lib.hid (HR5.out.off ho hrs (fun k hk e => by subst e; exact row_no HR5.out.own HS5.out.obj (by decide) hk))
  have HB6 := Lib.hid (HB5.out.trans (ho.below HB5.out.size (fun k e => by subst e; exact hsb)))
  clear hr ho
  rw [show leNum (List.take 1 (List.drop 1 [b0, b1, b2, b3, b4])) = b1.toNat by simp [leNum]]
  obtain ⟨b, off, hao, hcell⟩ := (HV.out.on HB6.out).at 1 (by simp)
  cases hao
  simp at hcell
  go_wp2
  rw [rounds_succ]
  go_wp2_with fail
  refine (u_ok _ s vs _ 2 1 w6 HS6.out (by decide) (by decide) (by simp)).mono ?_
  rintro e w7 ⟨rfl, hr, ho⟩
  have HS7 := Lib.hid hr
  have HR7 := Lib.hid (HR6.out.off ho hrs (fun k hk e => by subst e; exact row_no HR6.out.own HS6.out.obj (by decide) hk))
  have HB7 := Lib.hid (HB6.out.trans (ho.below HB6.out.size (fun k e => by subst e; exact hsb)))
  clear hr ho
  rw [show leNum (List.take 1 (List.drop 2 [b0, b1, b2, b3, b4])) = b2.toNat by simp [leNum]]
  obtain ⟨b, off, hao, hcell⟩ := (HV.out.on HB7.out).at 2 (by simp)
  cases hao
  simp at hcell
  go_wp2
  rw [rounds_succ]
  go_wp2_with fail
  refine (u_ok _ s vs _ 3 1 w7 HS7.out (by decide) (by decide) (by simp)).mono ?_
  rintro e w8 ⟨rfl, hr, ho⟩
  have HS8 := Lib.hid hr
  have HR8 := Lib.hid (HR7.out.off ho hrs (fun k hk e => by subst e; exact row_no HR7.out.own HS7.out.obj (by decide) hk))
  have HB8 := Lib.hid (HB7.out.trans (ho.below HB7.out.size (fun k e => by subst e; exact hsb)))
  clear hr ho
  rw [show leNum (List.take 1 (List.drop 3 [b0, b1, b2, b3, b4])) = b3.toNat by simp [leNum]]
  obtain ⟨b, off, hao, hcell⟩ := (HV.out.on HB8.out).at 3 (by simp)
  cases hao
  simp at hcell
  go_wp2
  rw [rounds_succ]
  go_wp2_with fail
  refine (u_ok _ s vs _ 4 1 w8 HS8.out (by decide) (by decide) (by simp)).mono ?_
  rintro e w9 ⟨rfl, hr, ho⟩
  have HS9 := Lib.hid hr
  have HR9 := Lib.hid (HR8.out.off ho hrs (fun k hk e => by subst e; exact row_no HR8.out.own HS8.out.obj (by decide) hk))
  have HB9 := Lib.hid (HB8.out.trans (ho.below HB8.out.size (fun k e => by subst e; exact hsb)))
  clear hr ho
  rw [show leNum (List.take 1 (List.drop 4 [b0, b1, b2, b3, b4])) = b4.toNat by simp [leNum]]
  obtain ⟨b, off, hao, hcell⟩ := (HV.out.on HB9.out).at 4 (by simp)
  cases hao
  simp at hcell
  go_wp2
  rw [rounds_succ]
  go_wp2_with fail
  refine (first_any w9 (HG.out.up HB9.out)).mono ?_
  rintro e wa ⟨rfl, hb⟩
  have HBa := Lib.hid (HB9.out.trans (hb.mono HB9.out.size))
  have HRa := Lib.hid (HR9.out.on hb)
  have HSa := Lib.hid (HS9.out.on hb)
  clear hb
  go_wp2_with fail
  refine (left_any _ r vr _ _ wa HRa.out).mono ?_
  rintro e wb ⟨rfl, hb⟩
  have HBb := Lib.hid (HBa.out.trans (hb.mono HBa.out.size))
  have HSb := Lib.hid (HSa.out.on hb)
  clear hb
  rw [show [b0, b1, b2, b3, b4].length - (0 + 5) = 0 by simp]
  go_wp2_with fail
  refine (place_any _ s vs _ _ wb HSb.out).mono ?_
  rintro e wc ⟨rfl, rfl⟩
  go_wp2
  go_ret
  exact ⟨rfl, HBb.out⟩

set_option maxRecDepth 100000 in
set_option maxHeartbeats 4000000 in
theorem parts6 (b0 b1 b2 b3 b4 b5 : UInt8) (v : Value) (w : World) (hv : BytesAt w v [b0, b1, b2, b3, b4, b5]) (hg : ErrT w) :
    Calls Tryd.prog 8 #[v] w fun e w' => e = .returned (.bool true) ∧ Below w.heap.size w w' := by
  have HG := Lib.hid hg
  have HV := Lib.hid hv
  obtain ⟨ao, cap, rfl, hc0⟩ := hv
  have HC := Lib.hid hc0
  have l0 := byte_lt b0
  have l1 := byte_lt b1
  have l2 := byte_lt b2
  have l3 := byte_lt b3
  have l4 := byte_lt b4
  have l5 := byte_lt b5
  clear hg hc0
  go_enter Tryd.func8, Tryd.ntmps8
  go_wp2_with fail
  refine (first_any w HG.out).mono ?_
  rintro e w1 ⟨rfl, hb⟩
  have HB1 := Lib.hid hb
  clear hb
  go_wp2_with fail
  refine (new_reader _ _ w1 (HV.out.on HB1.out) (by simp)).mono ?_
  rintro e w2 ⟨r, vr, rfl, hr, hb⟩
  have HB2 := Lib.hid (HB1.out.trans (hb.mono HB1.out.size))
  have HR := Lib.hid hr
  have hrl : r < w2.heap.size := hr.lt
  have hrb : w.heap.size ≤ r := Nat.le_trans HB1.out.size hr.base
  clear hr hb
  go_wp2_with fail
  refine (new_reader _ _ w2 (HV.out.on HB2.out) (by simp)).mono ?_
  rintro e w3 ⟨s, vs, rfl, hs, hb⟩
  have HB3 := Lib.hid (HB2.out.trans (hb.mono HB2.out.size))
  have HR3 := Lib.hid (HR.out.on hb)
  have HS3 := Lib.hid hs
  have hsb : w.heap.size ≤ s := Nat.le_trans HB2.out.size hs.base
  have hrs : r ≠ s := by have := hs.base; omega
  clear hs hb
  go_wp2_with fail
  refine (u_ok _ r vr _ 0 6 w3 HR3.out (by decide) (by decide) (by simp)).mono ?_
  rintro e w4 ⟨rfl, hr, ho⟩
  have HR4 := Lib.hid hr
  have HS4 := Lib.hid (HS3.out.up ho (fun k e => by subst e; exact hrl))
  have HB4 := Lib.hid (HB3.out.trans (ho.below HB3.out.size (fun k e => by subst e; exact hrb)))
  clear hr ho
  rw [show leNum (List.take 6 (List.drop 0 [b0, b1, b2, b3, b4, b5])) = b0.toNat + 256 * (b1.toNat + 256 * (b2.toNat + 256 * (b3.toNat + 256 * (b4.toNat + 256 * (b5.toNat + 256 * (0)))))) by rfl]
  go_wp2
  refine wp_loop_rounds 7 ?_
  rw [rounds_succ]
  go_wp2_with fail
  refine (u_ok _ s vs _ 0 1 w4 HS4.out (by decide) (by decide) (by simp)).mono ?_
  rintro e w5 ⟨rfl, hr, ho⟩
  have HS5 := Lib.hid hr
  have HR5 := Lib.hid (HR4.out.off ho hrs (fun k hk e => by subst e; exact row_no HR4.out.own HS4.out.obj (by decide) hk))
  have HB5 := Lib.hid (HB4.out.trans (ho.below HB4.out.size (fun k e => by subst e; exact hsb)))
  clear hr ho
  rw [show leNum (List.take 1 (List.drop 0 [b0, b1, b2, b3, b4, b5])) = b0.toNat by simp [leNum]]
  obtain ⟨b, off, hao, hcell⟩ := (HV.out.on HB5.out).at 0 (by simp)
  cases hao
  simp at hcell
  go_wp2
  rw [rounds_succ]
  go_wp2_with fail
  refine (u_ok _ s vs _ 1 1 w5 HS5.out (by decide) (by decide) (by simp)).mono ?_
  rintro e w6 ⟨rfl, hr, ho⟩
  have HS6 := Lib.hid hr
  have HR6 := Lib.hid (HR5.out.off ho hrs (fun k hk e => by subst e; exact row_no HR5.out.own HS5.out.obj (by decide) hk))
  have HB6 := Lib.hid (HB5.out.trans (ho.below HB5.out.size (fun k e => by subst e; exact hsb)))
  clear hr ho
  rw [show leNum (List.take 1 (List.drop 1 [b0, b1, b2, b3, b4, b5])) = b1.toNat by simp [leNum]]
  obtain ⟨b, off, hao, hcell⟩ := (HV.out.on HB6.out).at 1 (by simp)
  cases hao
  simp at hcell
  go_wp2
  rw [rounds_succ]
  go_wp2_with fail
  refine (u_ok _ s vs _ 2 1 w6 HS6.out (by decide) (by decide) (by simp)).mono ?_
  rintro e w7 ⟨rfl, hr, ho⟩
  have HS7 := Lib.hid hr
  have HR7 := Lib.hid (HR6.out.off ho hrs (fun k hk e => by subst e; exact row_no HR6.out.own HS6.out.obj (by decide) hk))
  have HB7 := Lib.hid (HB6.out.trans (ho.below HB6.out.size (fun k e => by subst e; exact hsb)))
  clear hr ho
  rw [show leNum (List.take 1 (List.drop 2 [b0, b1, b2, b3, b4, b5])) = b2.toNat by simp [leNum]]
  obtain ⟨b, off, hao, hcell⟩ := (HV.out.on HB7.out).at 2 (by simp)
  cases hao
  simp at hcell
  go_wp2
  rw [rounds_succ]
  go_wp2_with fail
  refine (u_ok _ s vs _ 3 1 w7 HS7.out (by decide) (by decide) (by simp)).mono ?_
  rintro e w8 ⟨rfl, hr, ho⟩
  have HS8 := Lib.hid hr
  have HR8 := Lib.hid (HR7.out.off ho hrs (fun k hk e => by subst e; exact row_no HR7.out.own HS7.out.obj (by decide) hk))
  have HB8 := Lib.hid (HB7.out.trans (ho.below HB7.out.size (fun k e => by subst e; exact hsb)))
  clear hr ho
  rw [show leNum (List.take 1 (List.drop 3 [b0, b1, b2, b3, b4, b5])) = b3.toNat by simp [leNum]]
  obtain ⟨b, off, hao, hcell⟩ := (HV.out.on HB8.out).at 3 (by simp)
  cases hao
  simp at hcell
  go_wp2
  rw [rounds_succ]
  go_wp2_with fail
  refine (u_ok _ s vs _ 4 1 w8 HS8.out (by decide) (by decide) (by simp)).mono ?_
  rintro e w9 ⟨rfl, hr, ho⟩
  have HS9 := Lib.hid hr
  have HR9 := Lib.hid (HR8.out.off ho hrs (fun k hk e => by subst e; exact row_no HR8.out.own HS8.out.obj (by decide) hk))
  have HB9 := Lib.hid (HB8.out.trans (ho.below HB8.out.size (fun k e => by subst e; exact hsb)))
  clear hr ho
  rw [show leNum (List.take 1 (List.drop 4 [b0, b1, b2, b3, b4, b5])) = b4.toNat by simp [leNum]]
  obtain ⟨b, off, hao, hcell⟩ := (HV.out.on HB9.out).at 4 (by simp)
  cases hao
  simp at hcell
  go_wp2
  rw [rounds_succ]
  go_wp2_with fail
  refine (u_ok _ s vs _ 5 1 w9 HS9.out (by decide) (by decide) (by simp)).mono ?_
  rintro e w10 ⟨rfl, hr, ho⟩
  have HS10 := Lib.hid hr
  have HR10 := Lib.hid (HR9.out.off ho hrs (fun k hk e => by subst e; exact row_no HR9.out.own HS9.out.obj (by decide) hk))
  have HB10 := Lib.hid (HB9.out.trans (ho.below HB9.out.size (fun k e => by subst e; exact hsb)))
  clear hr ho
  rw [show leNum (List.take 1 (List.drop 5 [b0, b1, b2, b3, b4, b5])) = b5.toNat by simp [leNum]]
  obtain ⟨b, off, hao, hcell⟩ := (HV.out.on HB10.out).at 5 (by simp)
  cases hao
  simp at hcell
  go_wp2
  rw [rounds_succ]
  go_wp2_with fail
  refine (first_any w10 (HG.out.up HB10.out)).mono ?_
  rintro e wa ⟨rfl, hb⟩
  have HBa := Lib.hid (HB10.out.trans (hb.mono HB10.out.size))
  have HRa := Lib.hid (HR10.out.on hb)
  have HSa := Lib.hid (HS10.out.on hb)
  clear hb
  go_wp2_with fail
  refine (left_any _ r vr _ _ wa HRa.out).mono ?_
  rintro e wb ⟨rfl, hb⟩
  have HBb := Lib.hid (HBa.out.trans (hb.mono HBa.out.size))
  have HSb := Lib.hid (HSa.out.on hb)
  clear hb
  rw [show [b0, b1, b2, b3, b4, b5].length - (0 + 6) = 0 by simp]
  go_wp2_with fail
  refine (place_any _ s vs _ _ wb HSb.out).mono ?_
  rintro e wc ⟨rfl, rfl⟩
  go_wp2
  go_ret
  exact ⟨rfl, HBb.out⟩

set_option maxRecDepth 100000 in
theorem parts_out (v : Value) (l : List UInt8) (w : World) (hv : BytesAt w v l) (hg : ErrT w) (hl : l.length < 1 ∨ 6 < l.length) (hm : l.length ≤ maxLen) :
    Calls Tryd.prog 8 #[v] w fun e w' => e = .returned (.bool true) ∧ Below w.heap.size w w' := by
  have HG := Lib.hid hg
  obtain ⟨ao, cap, rfl, _⟩ := hv
  unfold maxLen at hm
  clear hg
  rcases hl with hl | hl
  · go_enter Tryd.func8, Tryd.ntmps8
    go_wp2_with fail
    refine (first_any w HG.out).mono ?_
    rintro e w1 ⟨rfl, hb⟩
    have HB1 := Lib.hid hb
    clear hb
    go_wp2_with fail
    refine (first_any w1 (HG.out.up HB1.out)).mono ?_
    rintro e w2 ⟨rfl, hb⟩
    have HB2 := Lib.hid (HB1.out.trans (hb.mono HB1.out.size))
    clear hb
    go_wp2
    go_ret
    exact ⟨rfl, HB2.out⟩
  · go_enter Tryd.func8, Tryd.ntmps8
    go_wp2_with fail
    refine (first_any w HG.out).mono ?_
    rintro e w1 ⟨rfl, hb⟩
    have HB1 := Lib.hid hb
    clear hb
    go_wp2_with fail
    refine (first_any w1 (HG.out.up HB1.out)).mono ?_
    rintro e w2 ⟨rfl, hb⟩
    have HB2 := Lib.hid (HB1.out.trans (hb.mono HB1.out.size))
    clear hb
    go_wp2
    go_ret
    exact ⟨rfl, HB2.out⟩
theorem parts_any (v : Value) (l : List UInt8) (w : World) (hv : BytesAt w v l) (hg : ErrT w) (hm : l.length ≤ maxLen) :
    Calls Tryd.prog 8 #[v] w fun e w' => e = .returned (.bool true) ∧ Below w.heap.size w w' := by
  match l, hv, hm with
  | [], hv, hm => exact parts_out v _ w hv hg (.inl (by simp)) hm
  | [b0], hv, _ => exact parts1 b0 v w hv hg
  | [b0, b1], hv, _ => exact parts2 b0 b1 v w hv hg
  | [b0, b1, b2], hv, _ => exact parts3 b0 b1 b2 v w hv hg
  | [b0, b1, b2, b3], hv, _ => exact parts4 b0 b1 b2 b3 v w hv hg
  | [b0, b1, b2, b3, b4], hv, _ => exact parts5 b0 b1 b2 b3 b4 v w hv hg
  | [b0, b1, b2, b3, b4, b5], hv, _ => exact parts6 b0 b1 b2 b3 b4 b5 v w hv hg
  | _ :: _ :: _ :: _ :: _ :: _ :: _ :: _, hv, hm => exact parts_out v _ w hv hg (.inr (by simp)) hm
end Go.Proofs.YtpdngcjgfngnjaaDoor
