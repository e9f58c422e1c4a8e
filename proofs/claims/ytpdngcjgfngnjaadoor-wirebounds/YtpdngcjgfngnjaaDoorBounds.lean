/- yardlaw2.WireBounds answers true for every two numbers; memory that was there stands. -/
import Derived.Test.YtpdngcjgfngnjaaDoorBounds1
import Derived.Test.YtpdngcjgfngnjaaDoorBounds2
import Derived.Test.YtpdngcjgfngnjaaDoorBounds3
import Derived.Test.YtpdngcjgfngnjaaDoorBounds4
import Derived.Test.YtpdngcjgfngnjaaDoorBounds5
import Derived.Test.YtpdngcjgfngnjaaDoorBounds6
namespace Go.Proofs.YtpdngcjgfngnjaaDoor
open Go.RowKit Go.Extern.Stop Go.Stop Go.Extern

set_option maxRecDepth 100000 in
set_option maxHeartbeats 4000000 in
theorem bounds_low (n x : Int) (w : World) (hg : ErrT w) (h0 : n < 1) :
    Calls Tryd.prog 7 #[.int .i64 n, .int .i64 x] w fun e w' => e = .returned (.bool true) ∧ Below w.heap.size w w' := by
  have HG := Lib.hid hg
  have HU : Hid (¬ UFits n x) := Lib.hid (by unfold UFits; omega)
  have HS : Hid (¬ SFits n x) := Lib.hid (by unfold SFits; omega)
  clear hg
  go_enter Tryd.func7, Tryd.ntmps7
  go_wp2_with fail
  refine (first_any w HG.out).mono ?_
  rintro e w1 ⟨rfl, hb⟩
  have HB := Lib.hid hb
  clear hb
  go_wp2_with fail
  refine (new_writer w1).mono ?_
  rintro e w2 ⟨rfl, rfl⟩
  go_wp2_with fail
  refine (new_writer _).mono ?_
  rintro e w2 ⟨rfl, rfl⟩
  go_wp2_with fail
  refine (new_writer _).mono ?_
  rintro e w2 ⟨rfl, rfl⟩
  go_wp2_with fail
  refine (wu_bad w1.heap.size w1.heap.size noRow [] n x _ (three_new w1).1 HU.out).mono ?_
  rintro e w4 ⟨y4, rfl, hy, hb⟩
  obtain ⟨_, _, rfl, _⟩ := id hy
  have hp := putIs_none (three_new w1).1 hb
  clear hy hb
  have P1 := Lib.hid hp
  have N1 := Lib.hid (And.intro ((three_new w1).2.1.beside hp (by omega)) ((three_new w1).2.2.beside hp (by omega)))
  have HB4 := Lib.hid (hp.below (three_below w1 _ _ _) (Nat.le_refl _))
  clear hp
  go_wp2_with fail
  refine (wi_bad w1.heap.size (w1.heap.size + 1) noRow [] n x _ N1.out.1 HS.out).mono ?_
  rintro e w5 ⟨y5, rfl, hy, hb⟩
  obtain ⟨_, _, rfl, _⟩ := id hy
  have hp := putIs_none N1.out.1 hb
  clear hy hb
  have P2 := Lib.hid hp
  have N2 := Lib.hid (N1.out.2.beside hp (by omega))
  have HB5 := Lib.hid (hp.below HB4.out (by omega))
  clear hp
  go_wp2_with fail
  refine (wb_bad w1.heap.size (w1.heap.size + 1 + 1) noRow [] n x _ N2.out HU.out).mono ?_
  rintro e w6 ⟨y6, rfl, hy, hb⟩
  obtain ⟨_, _, rfl, _⟩ := id hy
  have hp := putIs_none N2.out hb
  clear hy hb
  have HB6 := Lib.hid (HB.out.trans ((hp.below HB5.out (by omega)).mono HB.out.size))
  obtain ⟨va, vb, vc, ta, tb, tc⟩ := three P1.out P2.out hp
  have TA := Lib.hid ta
  have TB := Lib.hid tb
  have TC := Lib.hid tc
  clear hp ta tb tc P1 P2 N1 N2 HB4 HB5
  go_wp2_with fail
  refine (first_any w6 (HG.out.up HB6.out)).mono ?_
  rintro e w7 ⟨rfl, hb⟩
  have HB7 := Lib.hid (HB6.out.trans (hb.mono HB6.out.size))
  have TA7 := Lib.hid (TA.out.on hb)
  have TB7 := Lib.hid (TB.out.on hb)
  have TC7 := Lib.hid (TC.out.on hb)
  clear hb
  go_wp2_with fail
  refine (out_any _ _ va _ w7 TA7.out (by simp)).mono ?_
  rintro e w8 ⟨va8, rfl, ho, hb⟩
  rw [show ([] : List UInt8).length = 0 by simp] at ho
  obtain ⟨a8, c8, e8⟩ := row_form ho
  subst e8
  have HB8 := Lib.hid (HB7.out.trans (hb.mono HB7.out.size))
  have TB8 := Lib.hid (TB7.out.on hb)
  have TC8 := Lib.hid (TC7.out.on hb)
  clear hb ho
  go_wp2_with fail
  refine (out_any _ _ vb _ w8 TB8.out (by simp)).mono ?_
  rintro e w9 ⟨va9, rfl, ho, hb⟩
  rw [show ([] : List UInt8).length = 0 by simp] at ho
  obtain ⟨a9, c9, e9⟩ := row_form ho
  subst e9
  have HB9 := Lib.hid (HB8.out.trans (hb.mono HB8.out.size))
  have TC9 := Lib.hid (TC8.out.on hb)
  clear hb ho
  go_wp2_with fail
  refine (out_any _ _ vc _ w9 TC9.out (by simp)).mono ?_
  rintro e w10 ⟨va10, rfl, ho, hb⟩
  rw [show ([] : List UInt8).length = 0 by simp] at ho
  obtain ⟨a10, c10, e10⟩ := row_form ho
  subst e10
  have HB10 := Lib.hid (HB9.out.trans (hb.mono HB9.out.size))
  clear hb ho
  go_wp2
  go_ret
  exact ⟨rfl, HB10.out⟩

set_option maxRecDepth 100000 in
set_option maxHeartbeats 4000000 in
theorem bounds_high (n x : Int) (w : World) (hg : ErrT w) (h0 : 6 < n) :
    Calls Tryd.prog 7 #[.int .i64 n, .int .i64 x] w fun e w' => e = .returned (.bool true) ∧ Below w.heap.size w w' := by
  have HG := Lib.hid hg
  have HU : Hid (¬ UFits n x) := Lib.hid (by unfold UFits; omega)
  have HS : Hid (¬ SFits n x) := Lib.hid (by unfold SFits; omega)
  clear hg
  go_enter Tryd.func7, Tryd.ntmps7
  go_wp2_with fail
  refine (first_any w HG.out).mono ?_
  rintro e w1 ⟨rfl, hb⟩
  have HB := Lib.hid hb
  clear hb
  go_wp2_with fail
  refine (new_writer w1).mono ?_
  rintro e w2 ⟨rfl, rfl⟩
  go_wp2_with fail
  refine (new_writer _).mono ?_
  rintro e w2 ⟨rfl, rfl⟩
  go_wp2_with fail
  refine (new_writer _).mono ?_
  rintro e w2 ⟨rfl, rfl⟩
  go_wp2_with fail
  refine (wu_bad w1.heap.size w1.heap.size noRow [] n x _ (three_new w1).1 HU.out).mono ?_
  rintro e w4 ⟨y4, rfl, hy, hb⟩
  obtain ⟨_, _, rfl, _⟩ := id hy
  have hp := putIs_none (three_new w1).1 hb
  clear hy hb
  have P1 := Lib.hid hp
  have N1 := Lib.hid (And.intro ((three_new w1).2.1.beside hp (by omega)) ((three_new w1).2.2.beside hp (by omega)))
  have HB4 := Lib.hid (hp.below (three_below w1 _ _ _) (Nat.le_refl _))
  clear hp
  go_wp2_with fail
  refine (wi_bad w1.heap.size (w1.heap.size + 1) noRow [] n x _ N1.out.1 HS.out).mono ?_
  rintro e w5 ⟨y5, rfl, hy, hb⟩
  obtain ⟨_, _, rfl, _⟩ := id hy
  have hp := putIs_none N1.out.1 hb
  clear hy hb
  have P2 := Lib.hid hp
  have N2 := Lib.hid (N1.out.2.beside hp (by omega))
  have HB5 := Lib.hid (hp.below HB4.out (by omega))
  clear hp
  go_wp2_with fail
  refine (wb_bad w1.heap.size (w1.heap.size + 1 + 1) noRow [] n x _ N2.out HU.out).mono ?_
  rintro e w6 ⟨y6, rfl, hy, hb⟩
  obtain ⟨_, _, rfl, _⟩ := id hy
  have hp := putIs_none N2.out hb
  clear hy hb
  have HB6 := Lib.hid (HB.out.trans ((hp.below HB5.out (by omega)).mono HB.out.size))
  obtain ⟨va, vb, vc, ta, tb, tc⟩ := three P1.out P2.out hp
  have TA := Lib.hid ta
  have TB := Lib.hid tb
  have TC := Lib.hid tc
  clear hp ta tb tc P1 P2 N1 N2 HB4 HB5
  go_wp2_with fail
  refine (first_any w6 (HG.out.up HB6.out)).mono ?_
  rintro e w7 ⟨rfl, hb⟩
  have HB7 := Lib.hid (HB6.out.trans (hb.mono HB6.out.size))
  have TA7 := Lib.hid (TA.out.on hb)
  have TB7 := Lib.hid (TB.out.on hb)
  have TC7 := Lib.hid (TC.out.on hb)
  clear hb
  go_wp2_with fail
  refine (out_any _ _ va _ w7 TA7.out (by simp)).mono ?_
  rintro e w8 ⟨va8, rfl, ho, hb⟩
  rw [show ([] : List UInt8).length = 0 by simp] at ho
  obtain ⟨a8, c8, e8⟩ := row_form ho
  subst e8
  have HB8 := Lib.hid (HB7.out.trans (hb.mono HB7.out.size))
  have TB8 := Lib.hid (TB7.out.on hb)
  have TC8 := Lib.hid (TC7.out.on hb)
  clear hb ho
  go_wp2_with fail
  refine (out_any _ _ vb _ w8 TB8.out (by simp)).mono ?_
  rintro e w9 ⟨va9, rfl, ho, hb⟩
  rw [show ([] : List UInt8).length = 0 by simp] at ho
  obtain ⟨a9, c9, e9⟩ := row_form ho
  subst e9
  have HB9 := Lib.hid (HB8.out.trans (hb.mono HB8.out.size))
  have TC9 := Lib.hid (TC8.out.on hb)
  clear hb ho
  go_wp2_with fail
  refine (out_any _ _ vc _ w9 TC9.out (by simp)).mono ?_
  rintro e w10 ⟨va10, rfl, ho, hb⟩
  rw [show ([] : List UInt8).length = 0 by simp] at ho
  obtain ⟨a10, c10, e10⟩ := row_form ho
  subst e10
  have HB10 := Lib.hid (HB9.out.trans (hb.mono HB9.out.size))
  clear hb ho
  go_wp2
  go_ret
  exact ⟨rfl, HB10.out⟩

theorem bounds_any (n x : Int) (w : World) (hg : ErrT w) : Calls Tryd.prog 7 #[.int .i64 n, .int .i64 x] w fun e w' => e = .returned (.bool true) ∧ Below w.heap.size w w' := by
  by_cases h1 : n < 1
  · exact bounds_low n x w hg h1
  by_cases h6 : 6 < n
  · exact bounds_high n x w hg h6
  obtain ⟨m, rfl⟩ : ∃ m : Nat, n = (m : Int) := ⟨n.toNat, by omega⟩
  match m, h1, h6 with
  | 0, h1, _ => omega
  | 1, _, _ =>
    by_cases a0 : x < -128
    · exact bounds1d x w hg a0
    by_cases a1 : x < 0
    · exact bounds1c x w hg (by omega) a1
    by_cases a2 : x < 128
    · exact bounds1a x w hg (by omega) a2
    by_cases a3 : x < 256
    · exact bounds1b x w hg (by omega) a3
    · exact bounds1e x w hg (by omega)
  | 2, _, _ =>
    by_cases a0 : x < -32768
    · exact bounds2d x w hg a0
    by_cases a1 : x < 0
    · exact bounds2c x w hg (by omega) a1
    by_cases a2 : x < 32768
    · exact bounds2a x w hg (by omega) a2
    by_cases a3 : x < 65536
    · exact bounds2b x w hg (by omega) a3
    · exact bounds2e x w hg (by omega)
  | 3, _, _ =>
    by_cases a0 : x < -8388608
    · exact bounds3d x w hg a0
    by_cases a1 : x < 0
    · exact bounds3c x w hg (by omega) a1
    by_cases a2 : x < 8388608
    · exact bounds3a x w hg (by omega) a2
    by_cases a3 : x < 16777216
    · exact bounds3b x w hg (by omega) a3
    · exact bounds3e x w hg (by omega)
  | 4, _, _ =>
    by_cases a0 : x < -2147483648
    · exact bounds4d x w hg a0
    by_cases a1 : x < 0
    · exact bounds4c x w hg (by omega) a1
    by_cases a2 : x < 2147483648
    · exact bounds4a x w hg (by omega) a2
    by_cases a3 : x < 4294967296
    · exact bounds4b x w hg (by omega) a3
    · exact bounds4e x w hg (by omega)
  | 5, _, _ =>
    by_cases a0 : x < -549755813888
    · exact bounds5d x w hg a0
    by_cases a1 : x < 0
    · exact bounds5c x w hg (by omega) a1
    by_cases a2 : x < 549755813888
    · exact bounds5a x w hg (by omega) a2
    by_cases a3 : x < 1099511627776
    · exact bounds5b x w hg (by omega) a3
    · exact bounds5e x w hg (by omega)
  | 6, _, _ =>
    by_cases a0 : x < -140737488355328
    · exact bounds6d x w hg a0
    by_cases a1 : x < 0
    · exact bounds6c x w hg (by omega) a1
    by_cases a2 : x < 140737488355328
    · exact bounds6a x w hg (by omega) a2
    by_cases a3 : x < 281474976710656
    · exact bounds6b x w hg (by omega) a3
    · exact bounds6e x w hg (by omega)
  | m + 7, _, h6 => omega
end Go.Proofs.YtpdngcjgfngnjaaDoor
