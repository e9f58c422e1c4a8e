/- yardlaw2.WireBounds at numbers of 6 bytes: it answers true. -/
import Derived.Test.YtpdngcjgfngnjaaDoorThree
namespace Go.Proofs.YtpdngcjgfngnjaaDoor
open Go.RowKit Go.Extern.Stop Go.Stop Go.Extern

set_option maxRecDepth 100000 in
set_option maxHeartbeats 4000000 in
theorem bounds6a (x : Int) (w : World) (hg : ErrT w) (h0 : 0 ≤ x) (h1 : x < 140737488355328) :
    Calls Tryd.prog 7 #[.int .i64 6, .int .i64 x] w fun e w' => e = .returned (.bool true) ∧ Below w.heap.size w w' := by
  have HG := Lib.hid hg
  have HU : Hid (UFits (6 : Nat) x) := Lib.hid (by unfold UFits; simp; omega)
  have HS : Hid (SFits (6 : Nat) x) := Lib.hid (by unfold SFits; simp; omega)
  clear hg
  go_enter Tryd.func7, Tryd.ntmps7
  go_wp2_with fail
  refine (first_any w HG.out).mono ?_
  rintro e w1 ⟨rfl, hb⟩
  have HB := Lib.hid hb
  clear hb
  go_wp2_with fail
  refine (new_writer w1).mono ?_
  rintro e w2 ⟨rfl, rfl⟩
  go_wp2_with fail
  refine (new_writer _).mono ?_
  rintro e w2 ⟨rfl, rfl⟩
  go_wp2_with fail
  refine (new_writer _).mono ?_
  rintro e w2 ⟨rfl, rfl⟩
  go_wp2_with fail
  refine (wu_ok w1.heap.size w1.heap.size noRow [] 6 x _ (three_new w1).1 (by decide) HU.out).mono ?_
  rintro e w4 ⟨rfl, hp⟩
  have P1 := Lib.hid hp
  have N1 := Lib.hid (And.intro ((three_new w1).2.1.beside hp (by omega)) ((three_new w1).2.2.beside hp (by omega)))
  have HB4 := Lib.hid (hp.below (three_below w1 _ _ _) (Nat.le_refl _))
  clear hp
  go_wp2_with fail
  refine (wi_ok w1.heap.size (w1.heap.size + 1) noRow [] 6 x _ N1.out.1 (by decide) HS.out).mono ?_
  rintro e w5 ⟨rfl, hp⟩
  have P2 := Lib.hid hp
  have N2 := Lib.hid (N1.out.2.beside hp (by omega))
  have HB5 := Lib.hid (hp.below HB4.out (by omega))
  clear hp
  go_wp2_with fail
  refine (wb_ok w1.heap.size (w1.heap.size + 1 + 1) noRow [] 6 x _ N2.out (by decide) HU.out).mono ?_
  rintro e w6 ⟨rfl, hp⟩
  have HB6 := Lib.hid (HB.out.trans ((hp.below HB5.out (by omega)).mono HB.out.size))
  obtain ⟨va, vb, vc, ta, tb, tc⟩ := three P1.out P2.out hp
  have TA := Lib.hid ta
  have TB := Lib.hid tb
  have TC := Lib.hid tc
  clear hp ta tb tc P1 P2 N1 N2 HB4 HB5
  go_wp2_with fail
  refine (first_any w6 (HG.out.up HB6.out)).mono ?_
  rintro e w7 ⟨rfl, hb⟩
  have HB7 := Lib.hid (HB6.out.trans (hb.mono HB6.out.size))
  have TA7 := Lib.hid (TA.out.on hb)
  have TB7 := Lib.hid (TB.out.on hb)
  have TC7 := Lib.hid (TC.out.on hb)
  clear hb
  go_wp2_with fail
  refine (out_any _ _ va _ w7 TA7.out (by simp [leBytes_length])).mono ?_
  rintro e w8 ⟨va8, rfl, ho, hb⟩
  rw [show ((leBytes 6 x) : List UInt8).length = 6 by simp [leBytes_length]] at ho
  obtain ⟨a8, c8, e8⟩ := row_form ho
  subst e8
  have HB8 := Lib.hid (HB7.out.trans (hb.mono HB7.out.size))
  have TB8 := Lib.hid (TB7.out.on hb)
  have TC8 := Lib.hid (TC7.out.on hb)
  clear hb ho
  go_wp2_with fail
  refine (out_any _ _ vb _ w8 TB8.out (by simp [leBytes_length])).mono ?_
  rintro e w9 ⟨va9, rfl, ho, hb⟩
  rw [show ((leBytes 6 x) : List UInt8).length = 6 by simp [leBytes_length]] at ho
  obtain ⟨a9, c9, e9⟩ := row_form ho
  subst e9
  have HB9 := Lib.hid (HB8.out.trans (hb.mono HB8.out.size))
  have TC9 := Lib.hid (TC8.out.on hb)
  clear hb ho
  go_wp2_with fail
  refine (out_any _ _ vc _ w9 TC9.out (by simp [leBytes_length])).mono ?_
  rintro e w10 ⟨va10, rfl, ho, hb⟩
  rw [show ((leBytes 6 x).reverse : List UInt8).length = 6 by simp [leBytes_length]] at ho
  obtain ⟨a10, c10, e10⟩ := row_form ho
  subst e10
  have HB10 := Lib.hid (HB9.out.trans (hb.mono HB9.out.size))
  clear hb ho
  go_wp2
  go_ret
  exact ⟨rfl, HB10.out⟩

set_option maxRecDepth 100000 in
set_option maxHeartbeats 4000000 in
theorem bounds6b (x : Int) (w : World) (hg : ErrT w) (h0 : 140737488355328 ≤ x) (h1 : x < 281474976710656) :
    Calls Tryd.prog 7 #[.int .i64 6, .int .i64 x] w fun e w' => e = .returned (.bool true) ∧ Below w.heap.size w w' := by
  have HG := Lib.hid hg
  have HU : Hid (UFits (6 : Nat) x) := Lib.hid (by unfold UFits; simp; omega)
  have HS : Hid (¬ SFits (6 : Nat) x) := Lib.hid (by unfold SFits; simp; omega)
  clear hg
  go_enter Tryd.func7, Tryd.ntmps7
  go_wp2_with fail
  refine (first_any w HG.out).mono ?_
  rintro e w1 ⟨rfl, hb⟩
  have HB := Lib.hid hb
  clear hb
  go_wp2_with fail
  refine (new_writer w1).mono ?_
  rintro e w2 ⟨rfl, rfl⟩
  go_wp2_with fail
  refine (new_writer _).mono ?_
  rintro e w2 ⟨rfl, rfl⟩
  go_wp2_with fail
  refine (new_writer _).mono ?_
  rintro e w2 ⟨rfl, rfl⟩
  go_wp2_with fail
  refine (wu_ok w1.heap.size w1.heap.size noRow [] 6 x _ (three_new w1).1 (by decide) HU.out).mono ?_
  rintro e w4 ⟨rfl, hp⟩
  have P1 := Lib.hid hp
  have N1 := Lib.hid (And.intro ((three_new w1).2.1.beside hp (by omega)) ((three_new w1).2.2.beside hp (by omega)))
  have HB4 := Lib.hid (hp.below (three_below w1 _ _ _) (Nat.le_refl _))
  clear hp
  go_wp2_with fail
  refine (wi_bad w1.heap.size (w1.heap.size + 1) noRow [] 6 x _ N1.out.1 HS.out).mono ?_
  rintro e w5 ⟨y5, rfl, hy, hb⟩
  obtain ⟨_, _, rfl, _⟩ := id hy
  have hp := putIs_none N1.out.1 hb
  clear hy hb
  have P2 := Lib.hid hp
  have N2 := Lib.hid (N1.out.2.beside hp (by omega))
  have HB5 := Lib.hid (hp.below HB4.out (by omega))
  clear hp
  go_wp2_with fail
  refine (wb_ok w1.heap.size (w1.heap.size + 1 + 1) noRow [] 6 x _ N2.out (by decide) HU.out).mono ?_
  rintro e w6 ⟨rfl, hp⟩
  have HB6 := Lib.hid (HB.out.trans ((hp.below HB5.out (by omega)).mono HB.out.size))
  obtain ⟨va, vb, vc, ta, tb, tc⟩ := three P1.out P2.out hp
  have TA := Lib.hid ta
  have TB := Lib.hid tb
  have TC := Lib.hid tc
  clear hp ta tb tc P1 P2 N1 N2 HB4 HB5
  go_wp2_with fail
  refine (first_any w6 (HG.out.up HB6.out)).mono ?_
  rintro e w7 ⟨rfl, hb⟩
  have HB7 := Lib.hid (HB6.out.trans (hb.mono HB6.out.size))
  have TA7 := Lib.hid (TA.out.on hb)
  have TB7 := Lib.hid (TB.out.on hb)
  have TC7 := Lib.hid (TC.out.on hb)
  clear hb
  go_wp2_with fail
  refine (out_any _ _ va _ w7 TA7.out (by simp [leBytes_length])).mono ?_
  rintro e w8 ⟨va8, rfl, ho, hb⟩
  rw [show ((leBytes 6 x) : List UInt8).length = 6 by simp [leBytes_length]] at ho
  obtain ⟨a8, c8, e8⟩ := row_form ho
  subst e8
  have HB8 := Lib.hid (HB7.out.trans (hb.mono HB7.out.size))
  have TB8 := Lib.hid (TB7.out.on hb)
  have TC8 := Lib.hid (TC7.out.on hb)
  clear hb ho
  go_wp2_with fail
  refine (out_any _ _ vb _ w8 TB8.out (by simp)).mono ?_
  rintro e w9 ⟨va9, rfl, ho, hb⟩
  rw [show ([] : List UInt8).length = 0 by simp] at ho
  obtain ⟨a9, c9, e9⟩ := row_form ho
  subst e9
  have HB9 := Lib.hid (HB8.out.trans (hb.mono HB8.out.size))
  have TC9 := Lib.hid (TC8.out.on hb)
  clear hb ho
  go_wp2_with fail
  refine (out_any _ _ vc _ w9 TC9.out (by simp [leBytes_length])).mono ?_
  rintro e w10 ⟨va10, rfl, ho, hb⟩
  rw [show ((leBytes 6 x).reverse : List UInt8).length = 6 by simp [leBytes_length]] at ho
  obtain ⟨a10, c10, e10⟩ := row_form ho
  subst e10
  have HB10 := Lib.hid (HB9.out.trans (hb.mono HB9.out.size))
  clear hb ho
  go_wp2
  go_ret
  exact ⟨rfl, HB10.out⟩

set_option maxRecDepth 100000 in
set_option maxHeartbeats 4000000 in
theorem bounds6c (x : Int) (w : World) (hg : ErrT w) (h0 : -140737488355328 ≤ x) (h1 : x < 0) :
    Calls Tryd.prog 7 #[.int .i64 6, .int .i64 x] w fun e w' => e = .returned (.bool true) ∧ Below w.heap.size w w' := by
  have HG := Lib.hid hg
  have HU : Hid (¬ UFits (6 : Nat) x) := Lib.hid (by unfold UFits; simp; omega)
  have HS : Hid (SFits (6 : Nat) x) := Lib.hid (by unfold SFits; simp; omega)
  clear hg
  go_enter Tryd.func7, Tryd.ntmps7
  go_wp2_with fail
  refine (first_any w HG.out).mono ?_
  rintro e w1 ⟨rfl, hb⟩
  have HB := Lib.hid hb
  clear hb
  go_wp2_with fail
  refine (new_writer w1).mono ?_
  rintro e w2 ⟨rfl, rfl⟩
  go_wp2_with fail
  refine (new_writer _).mono ?_
  rintro e w2 ⟨rfl, rfl⟩
  go_wp2_with fail
  refine (new_writer _).mono ?_
  rintro e w2 ⟨rfl, rfl⟩
  go_wp2_with fail
  refine (wu_bad w1.heap.size w1.heap.size noRow [] 6 x _ (three_new w1).1 HU.out).mono ?_
  rintro e w4 ⟨y4, rfl, hy, hb⟩
  obtain ⟨_, _, rfl, _⟩ := id hy
  have hp := putIs_none (three_new w1).1 hb
  clear hy hb
  have P1 := Lib.hid hp
  have N1 := Lib.hid (And.intro ((three_new w1).2.1.beside hp (by omega)) ((three_new w1).2.2.beside hp (by omega)))
  have HB4 := Lib.hid (hp.below (three_below w1 _ _ _) (Nat.le_refl _))
  clear hp
  go_wp2_with fail
  refine (wi_ok w1.heap.size (w1.heap.size + 1) noRow [] 6 x _ N1.out.1 (by decide) HS.out).mono ?_
  rintro e w5 ⟨rfl, hp⟩
  have P2 := Lib.hid hp
  have N2 := Lib.hid (N1.out.2.beside hp (by omega))
  have HB5 := Lib.hid (hp.below HB4.out (by omega))
  clear hp
  go_wp2_with fail
  refine (wb_bad w1.heap.size (w1.heap.size + 1 + 1) noRow [] 6 x _ N2.out HU.out).mono ?_
  rintro e w6 ⟨y6, rfl, hy, hb⟩
  obtain ⟨_, _, rfl, _⟩ := id hy
  have hp := putIs_none N2.out hb
  clear hy hb
  have HB6 := Lib.hid (HB.out.trans ((hp.below HB5.out (by omega)).mono HB.out.size))
  obtain ⟨va, vb, vc, ta, tb, tc⟩ := three P1.out P2.out hp
  have TA := Lib.hid ta
  have TB := Lib.hid tb
  have TC := Lib.hid tc
  clear hp ta tb tc P1 P2 N1 N2 HB4 HB5
  go_wp2_with fail
  refine (first_any w6 (HG.out.up HB6.out)).mono ?_
  rintro e w7 ⟨rfl, hb⟩
  have HB7 := Lib.hid (HB6.out.trans (hb.mono HB6.out.size))
  have TA7 := Lib.hid (TA.out.on hb)
  have TB7 := Lib.hid (TB.out.on hb)
  have TC7 := Lib.hid (TC.out.on hb)
  clear hb
  go_wp2_with fail
  refine (out_any _ _ va _ w7 TA7.out (by simp)).mono ?_
  rintro e w8 ⟨va8, rfl, ho, hb⟩
  rw [show ([] : List UInt8).length = 0 by simp] at ho
  obtain ⟨a8, c8, e8⟩ := row_form ho
  subst e8
  have HB8 := Lib.hid (HB7.out.trans (hb.mono HB7.out.size))
  have TB8 := Lib.hid (TB7.out.on hb)
  have TC8 := Lib.hid (TC7.out.on hb)
  clear hb ho
  go_wp2_with fail
  refine (out_any _ _ vb _ w8 TB8.out (by simp [leBytes_length])).mono ?_
  rintro e w9 ⟨va9, rfl, ho, hb⟩
  rw [show ((leBytes 6 x) : List UInt8).length = 6 by simp [leBytes_length]] at ho
  obtain ⟨a9, c9, e9⟩ := row_form ho
  subst e9
  have HB9 := Lib.hid (HB8.out.trans (hb.mono HB8.out.size))
  have TC9 := Lib.hid (TC8.out.on hb)
  clear hb ho
  go_wp2_with fail
  refine (out_any _ _ vc _ w9 TC9.out (by simp)).mono ?_
  rintro e w10 ⟨va10, rfl, ho, hb⟩
  rw [show ([] : List UInt8).length = 0 by simp] at ho
  obtain ⟨a10, c10, e10⟩ := row_form ho
  subst e10
  have HB10 := Lib.hid (HB9.out.trans (hb.mono HB9.out.size))
  clear hb ho
  go_wp2
  go_ret
  exact ⟨rfl, HB10.out⟩

set_option maxRecDepth 100000 in
set_option maxHeartbeats 4000000 in
theorem bounds6d (x : Int) (w : World) (hg : ErrT w) (h0 : x < -140737488355328) :
    Calls Tryd.prog 7 #[.int .i64 6, .int .i64 x] w fun e w' => e = .returned (.bool true) ∧ Below w.heap.size w w' := by
  have HG := Lib.hid hg
  have HU : Hid (¬ UFits (6 : Nat) x) := Lib.hid (by unfold UFits; simp; omega)
  have HS : Hid (¬ SFits (6 : Nat) x) := Lib.hid (by unfold SFits; simp; omega)
  clear hg
  go_enter Tryd.func7, Tryd.ntmps7
  go_wp2_with fail
  refine (first_any w HG.out).mono ?_
  rintro e w1 ⟨rfl, hb⟩
  have HB := Lib.hid hb
  clear hb
  go_wp2_with fail
  refine (new_writer w1).mono ?_
  rintro e w2 ⟨rfl, rfl⟩
  go_wp2_with fail
  refine (new_writer _).mono ?_
  rintro e w2 ⟨rfl, rfl⟩
  go_wp2_with fail
  refine (new_writer _).mono ?_
  rintro e w2 ⟨rfl, rfl⟩
  go_wp2_with fail
  refine (wu_bad w1.heap.size w1.heap.size noRow [] 6 x _ (three_new w1).1 HU.out).mono ?_
  rintro e w4 ⟨y4, rfl, hy, hb⟩
  obtain ⟨_, _, rfl, _⟩ := id hy
  have hp := putIs_none (three_new w1).1 hb
  clear hy hb
  have P1 := Lib.hid hp
  have N1 := Lib.hid (And.intro ((three_new w1).2.1.beside hp (by omega)) ((three_new w1).2.2.beside hp (by omega)))
  have HB4 := Lib.hid (hp.below (three_below w1 _ _ _) (Nat.le_refl _))
  clear hp
  go_wp2_with fail
  refine (wi_bad w1.heap.size (w1.heap.size + 1) noRow [] 6 x _ N1.out.1 HS.out).mono ?_
  rintro e w5 ⟨y5, rfl, hy, hb⟩
  obtain ⟨_, _, rfl, _⟩ := id hy
  have hp := putIs_none N1.out.1 hb
  clear hy hb
  have P2 := Lib.hid hp
  have N2 := Lib.hid (N1.out.2.beside hp (by omega))
  have HB5 := Lib.hid (hp.below HB4.out (by omega))
  clear hp
  go_wp2_with fail
  refine (wb_bad w1.heap.size (w1.heap.size + 1 + 1) noRow [] 6 x _ N2.out HU.out).mono ?_
  rintro e w6 ⟨y6, rfl, hy, hb⟩
  obtain ⟨_, _, rfl, _⟩ := id hy
  have hp := putIs_none N2.out hb
  clear hy hb
  have HB6 := Lib.hid (HB.out.trans ((hp.below HB5.out (by omega)).mono HB.out.size))
  obtain ⟨va, vb, vc, ta, tb, tc⟩ := three P1.out P2.out hp
  have TA := Lib.hid ta
  have TB := Lib.hid tb
  have TC := Lib.hid tc
  clear hp ta tb tc P1 P2 N1 N2 HB4 HB5
  go_wp2_with fail
  refine (first_any w6 (HG.out.up HB6.out)).mono ?_
  rintro e w7 ⟨rfl, hb⟩
  have HB7 := Lib.hid (HB6.out.trans (hb.mono HB6.out.size))
  have TA7 := Lib.hid (TA.out.on hb)
  have TB7 := Lib.hid (TB.out.on hb)
  have TC7 := Lib.hid (TC.out.on hb)
  clear hb
  go_wp2_with fail
  refine (out_any _ _ va _ w7 TA7.out (by simp)).mono ?_
  rintro e w8 ⟨va8, rfl, ho, hb⟩
  rw [show ([] : List UInt8).length = 0 by simp] at ho
  obtain ⟨a8, c8, e8⟩ := row_form ho
  subst e8
  have HB8 := Lib.hid (HB7.out.trans (hb.mono HB7.out.size))
  have TB8 := Lib.hid (TB7.out.on hb)
  have TC8 := Lib.hid (TC7.out.on hb)
  clear hb ho
  go_wp2_with fail
  refine (out_any _ _ vb _ w8 TB8.out (by simp)).mono ?_
  rintro e w9 ⟨va9, rfl, ho, hb⟩
  rw [show ([] : List UInt8).length = 0 by simp] at ho
  obtain ⟨a9, c9, e9⟩ := row_form ho
  subst e9
  have HB9 := Lib.hid (HB8.out.trans (hb.mono HB8.out.size))
  have TC9 := Lib.hid (TC8.out.on hb)
  clear hb ho
  go_wp2_with fail
  refine (out_any _ _ vc _ w9 TC9.out (by simp)).mono ?_
  rintro e w10 ⟨va10, rfl, ho, hb⟩
  rw [show ([] : List UInt8).length = 0 by simp] at ho
  obtain ⟨a10, c10, e10⟩ := row_form ho
  subst e10
  have HB10 := Lib.hid (HB9.out.trans (hb.mono HB9.out.size))
  clear hb ho
  go_wp2
  go_ret
  exact ⟨rfl, HB10.out⟩

set_option maxRecDepth 100000 in
set_option maxHeartbeats 4000000 in
theorem bounds6e (x : Int) (w : World) (hg : ErrT w) (h0 : 281474976710656 ≤ x) :
    Calls Tryd.prog 7 #[.int .i64 6, .int .i64 x] w fun e w' => e = .returned (.bool true) ∧ Below w.heap.size w w' := by
  have HG := Lib.hid hg
  have HU : Hid (¬ UFits (6 : Nat) x) := Lib.hid (by unfold UFits; simp; omega)
  have HS : Hid (¬ SFits (6 : Nat) x) := Lib.hid (by unfold SFits; simp; omega)
  clear hg
  go_enter Tryd.func7, Tryd.ntmps7
  go_wp2_with fail
  refine (first_any w HG.out).mono ?_
  rintro e w1 ⟨rfl, hb⟩
  have HB := Lib.hid hb
  clear hb
  go_wp2_with fail
  refine (new_writer w1).mono ?_
  rintro e w2 ⟨rfl, rfl⟩
  go_wp2_with fail
  refine (new_writer _).mono ?_
  rintro e w2 ⟨rfl, rfl⟩
  go_wp2_with fail
  refine (new_writer _).mono ?_
  rintro e w2 ⟨rfl, rfl⟩
  go_wp2_with fail
  refine (wu_bad w1.heap.size w1.heap.size noRow [] 6 x _ (three_new w1).1 HU.out).mono ?_
  rintro e w4 ⟨y4, rfl, hy, hb⟩
  obtain ⟨_, _, rfl, _⟩ := id hy
  have hp := putIs_none (three_new w1).1 hb
  clear hy hb
  have P1 := Lib.hid hp
  have N1 := Lib.hid (And.intro ((three_new w1).2.1.beside hp (by omega)) ((three_new w1).2.2.beside hp (by omega)))
  have HB4 := Lib.hid (hp.below (three_below w1 _ _ _) (Nat.le_refl _))
  clear hp
  go_wp2_with fail
  refine (wi_bad w1.heap.size (w1.heap.size + 1) noRow [] 6 x _ N1.out.1 HS.out).mono ?_
  rintro e w5 ⟨y5, rfl, hy, hb⟩
  obtain ⟨_, _, rfl, _⟩ := id hy
  have hp := putIs_none N1.out.1 hb
  clear hy hb
  have P2 := Lib.hid hp
  have N2 := Lib.hid (N1.out.2.beside hp (by omega))
  have HB5 := Lib.hid (hp.below HB4.out (by omega))
  clear hp
  go_wp2_with fail
  refine (wb_bad w1.heap.size (w1.heap.size + 1 + 1) noRow [] 6 x _ N2.out HU.out).mono ?_
  rintro e w6 ⟨y6, rfl, hy, hb⟩
  obtain ⟨_, _, rfl, _⟩ := id hy
  have hp := putIs_none N2.out hb
  clear hy hb
  have HB6 := Lib.hid (HB.out.trans ((hp.below HB5.out (by omega)).mono HB.out.size))
  obtain ⟨va, vb, vc, ta, tb, tc⟩ := three P1.out P2.out hp
  have TA := Lib.hid ta
  have TB := Lib.hid tb
  have TC := Lib.hid tc
  clear hp ta tb tc P1 P2 N1 N2 HB4 HB5
  go_wp2_with fail
  refine (first_any w6 (HG.out.up HB6.out)).mono ?_
  rintro e w7 ⟨rfl, hb⟩
  have HB7 := Lib.hid (HB6.out.trans (hb.mono HB6.out.size))
  have TA7 := Lib.hid (TA.out.on hb)
  have TB7 := Lib.hid (TB.out.on hb)
  have TC7 := Lib.hid (TC.out.on hb)
  clear hb
  go_wp2_with fail
  refine (out_any _ _ va _ w7 TA7.out (by simp)).mono ?_
  rintro e w8 ⟨va8, rfl, ho, hb⟩
  rw [show ([] : List UInt8).length = 0 by simp] at ho
  obtain ⟨a8, c8, e8⟩ := row_form ho
  subst e8
  have HB8 := Lib.hid (HB7.out.trans (hb.mono HB7.out.size))
  have TB8 := Lib.hid (TB7.out.on hb)
  have TC8 := Lib.hid (TC7.out.on hb)
  clear hb ho
  go_wp2_with fail
  refine (out_any _ _ vb _ w8 TB8.out (by simp)).mono ?_
  rintro e w9 ⟨va9, rfl, ho, hb⟩
  rw [show ([] : List UInt8).length = 0 by simp] at ho
  obtain ⟨a9, c9, e9⟩ := row_form ho
  subst e9
  have HB9 := Lib.hid (HB8.out.trans (hb.mono HB8.out.size))
  have TC9 := Lib.hid (TC8.out.on hb)
  clear hb ho
  go_wp2_with fail
  refine (out_any _ _ vc _ w9 TC9.out (by simp)).mono ?_
  rintro e w10 ⟨va10, rfl, ho, hb⟩
  rw [show ([] : List UInt8).length = 0 by simp] at ho
  obtain ⟨a10, c10, e10⟩ := row_form ho
  subst e10
  have HB10 := Lib.hid (HB9.out.trans (hb.mono HB9.out.size))
  clear hb ho
  go_wp2
  go_ret
  exact ⟨rfl, HB10.out⟩
end Go.Proofs.YtpdngcjgfngnjaaDoor
