/- yardlaw5.ScaleRises answers true for every point and two numbers; memory that was there stands. -/
import Derived.Test.YtpnmnghhcekfnaaBox
import Derived.Deep.RegionHeld3
namespace Go.Proofs.Ytpnmnghhcekfnaa
open Go.RowKit

set_option maxHeartbeats 1000000 in
theorem rises_no (k q l c d n e o a b : Int) (w : World) (ka : -9223372036854775808 ≤ a ∧ a ≤ 9223372036854775807) (hm : mayN d n e o = false) : Calls Try.prog 5 #[.agg #[.int .i64 k, .int .i64 q, .int .i64 l, .int .i64 c, .int .i64 d, .int .i64 n, .int .i64 e, .int .i64 o], .int .i64 a, .int .i64 b] w fun e' w' => e' = .returned (.bool true) ∧ Below w.heap.size w w' := by
  have HM := Lib.hid hm
  have HV := Lib.hid (show applyN d n e o a = 0 by rw [applyN, hm]; rfl)
  clear hm
  go_enter Try.func5, Try.ntmps5
  go_wp2_with fail
  refine (first_any _).mono ?_
  rintro e' w1 ⟨rfl, h⟩
  have HB1 := Lib.hid h
  clear h
  obtain ⟨c0, c1, c2, c3, c4, c5, c6, c7⟩ := pt_box HB1.out
  go_wp2_with fail
  refine (may_any k q l c d n e o _).mono ?_
  rintro e' w2 ⟨rfl, h⟩
  have HB2 := Lib.hid (HB1.out.trans (h.mono HB1.out.size))
  clear h c0 c1 c2 c3 c4 c5 c6 c7
  rw [HM.out]
  go_wp2_with fail
  refine (first_any _).mono ?_
  rintro e' w3 ⟨rfl, h⟩
  have HB3 := Lib.hid (HB2.out.trans (h.mono HB2.out.size))
  clear h
  obtain ⟨c0, c1, c2, c3, c4, c5, c6, c7⟩ := pt_box HB3.out
  go_wp2_with fail
  refine (apply_any k q l c d n e o a _ ka).mono ?_
  rintro e' w4 ⟨rfl, h⟩
  have HB4 := Lib.hid (HB3.out.trans (h.mono HB3.out.size))
  clear h c0 c1 c2 c3 c4 c5 c6 c7
  rw [HV.out]
  go_wp2
  go_ret
  exact ⟨rfl, below_of HB4.out⟩

set_option maxRecDepth 100000 in
set_option maxHeartbeats 4000000 in
theorem rises_yes (k q l c d n e o a b u v x y : Int) (f : Bool) (w : World) (ka : -9223372036854775808 ≤ a ∧ a ≤ 9223372036854775807) (kb : -9223372036854775808 ≤ b ∧ b ≤ 9223372036854775807) (hm : mayN d n e o = true) (hu : applyN d n e o (if b < a then b else a) = u) (hv : applyN d n e o (if a < b then b else a) = v)
    (hlim : lim a = x) (hy : clipV x M = y) (hf : clipF x M = f) (h1 : valN 1 1 0 a = y) (ub : -2147483648 ≤ u ∧ u < 2147483648) (hpos : 0 < n → u ≤ v) (hneg : n < 0 → v ≤ u) (hnil : n = 0 → u = v) : Calls Try.prog 5 #[.agg #[.int .i64 k, .int .i64 q, .int .i64 l, .int .i64 c, .int .i64 d, .int .i64 n, .int .i64 e, .int .i64 o], .int .i64 a, .int .i64 b] w fun e' w' => e' = .returned (.bool true) ∧ Below w.heap.size w w' := by
  have HM := Lib.hid hm
  have HU := Lib.hid hu
  have HV := Lib.hid hv
  have HY := Lib.hid hy
  have HF := Lib.hid hf
  have H1 := Lib.hid h1
  have HL := Lib.hid hlim
  have HS := Lib.hid (And.intro hpos (And.intro hneg hnil))
  have lo1 : -9223372036854775808 ≤ (if b < a then b else a) ∧ (if b < a then b else a) ≤ 9223372036854775807 := by split <;> omega
  have hi1 : -9223372036854775808 ≤ (if a < b then b else a) ∧ (if a < b then b else a) ≤ 9223372036854775807 := by split <;> omega
  have LO := Lib.hid lo1
  have HI := Lib.hid hi1
  clear hm hu hv hy hf h1 hlim hpos hneg hnil lo1 hi1
  go_enter Try.func5, Try.ntmps5
  go_wp2_with fail
  refine (first_any _).mono ?_
  rintro e' w1 ⟨rfl, h⟩
  have HB1 := Lib.hid h
  clear h
  obtain ⟨c0, c1, c2, c3, c4, c5, c6, c7⟩ := pt_box HB1.out
  go_wp2_with fail
  refine (may_any k q l c d n e o _).mono ?_
  rintro e' w2 ⟨rfl, h⟩
  have HB2 := Lib.hid (HB1.out.trans (h.mono HB1.out.size))
  clear h c0 c1 c2 c3 c4 c5 c6 c7
  have K2 := Lib.hid (pt_box HB2.out)
  rw [HM.out]
  go_wp2_with fail
  generalize hg : w.heap.size = g at K2 ⊢
  go_region_held3 (fun w' => w'.cell? ⟨g, 0, none⟩ = some (.int .i64 k) ∧ w'.cell? ⟨g, 1, none⟩ = some (.int .i64 q) ∧ w'.cell? ⟨g, 2, none⟩ = some (.int .i64 l) ∧ w'.cell? ⟨g, 3, none⟩ = some (.int .i64 c) ∧ w'.cell? ⟨g, 4, none⟩ = some (.int .i64 d) ∧ w'.cell? ⟨g, 5, none⟩ = some (.int .i64 n) ∧ w'.cell? ⟨g, 6, none⟩ = some (.int .i64 e) ∧ w'.cell? ⟨g, 7, none⟩ = some (.int .i64 o))
    (first
      | exact K2.out
      | exact K3.out
      | exact K4.out
      | go_keep)
    (first
      | (go_at_call_of 15 (Value.int IntKind.i64 (if b < a then b else a)); refine (apply_any k q l c d n e o _ _ LO.out).mono ?_; rintro e' w3 ⟨rfl, h⟩; have HB3 := Lib.hid ((below_drewN HB2.out 1).trans (h.mono HB2.out.size)); have K3 := Lib.hid (hg ▸ pt_box HB3.out); clear h; rw [HU.out]; simp only [])
      | (go_at_call_of 15 (Value.int IntKind.i64 (if a < b then b else a)); refine (apply_any k q l c d n e o _ _ HI.out).mono ?_; rintro e' w4 ⟨rfl, h⟩; have HB4 := Lib.hid (HB3.out.trans (h.mono HB3.out.size)); have K4 := Lib.hid (hg ▸ pt_box HB4.out); clear h; rw [HV.out]; simp only []))
  all_goals
    generalize (if b < a then b else a) = lo
    generalize (if a < b then b else a) = hi
    subst hg
    obtain ⟨c0, c1, c2, c3, c4, c5, c6, c7⟩ := K4.out
    clear K2 K3 K4
    rcases (by omega : 0 < n ∨ (¬ 0 < n ∧ n < 0) ∨ (¬ 0 < n ∧ ¬ n < 0)) with hn | ⟨hn, hn'⟩ | ⟨hn, hn'⟩
    · rcases (by omega : a < -2147483648 ∨ (¬ a < -2147483648 ∧ 4294967295 < a) ∨ (¬ a < -2147483648 ∧ ¬ 4294967295 < a)) with hr | ⟨hr, hr'⟩ | ⟨hr, hr'⟩
      · have hs := HS.out.1 hn
        have HXX := Lib.hid (show clipV (-2147483648) M = y ∧ clipF (-2147483648) M = f by rw [show (-2147483648) = x by rw [← HL.out, lim, if_pos hr]]; exact ⟨HY.out, HF.out⟩)
        go_wp2_with fail
        refine (clip32 _ _).mono ?_
        rintro e' w' ⟨rfl, rfl⟩
        rw [HXX.out.1, HXX.out.2]
        clear c0 c1 c2 c3 c4 c5 c6 c7
        go_wp2_with fail
        refine (first_any _).mono ?_
        rintro e' w5 ⟨rfl, h⟩
        have HB5 := Lib.hid (HB4.out.trans (h.mono HB4.out.size))
        clear h
        go_wp2_with fail
        refine (p_any 1 1 0 _).mono ?_
        rintro e' w6 ⟨rfl, h⟩
        have HB6 := Lib.hid (HB5.out.trans (h.mono HB5.out.size))
        clear h
        go_wp2_with fail
        refine (val_any 1 1 0 a _ ka).mono ?_
        rintro e' w7 ⟨rfl, h⟩
        have HB7 := Lib.hid (HB6.out.trans (h.mono HB6.out.size))
        clear h
        rw [H1.out]
        go_wp2
        go_ret
        exact ⟨rfl, below_of HB7.out⟩
      · have hs := HS.out.1 hn
        have HXX := Lib.hid (show clipV 4294967295 M = y ∧ clipF 4294967295 M = f by rw [show 4294967295 = x by rw [← HL.out, lim, if_neg hr, if_pos hr']]; exact ⟨HY.out, HF.out⟩)
        go_wp2_with fail
        refine (clip32 _ _).mono ?_
        rintro e' w' ⟨rfl, rfl⟩
        rw [HXX.out.1, HXX.out.2]
        clear c0 c1 c2 c3 c4 c5 c6 c7
        go_wp2_with fail
        refine (first_any _).mono ?_
        rintro e' w5 ⟨rfl, h⟩
        have HB5 := Lib.hid (HB4.out.trans (h.mono HB4.out.size))
        clear h
        go_wp2_with fail
        refine (p_any 1 1 0 _).mono ?_
        rintro e' w6 ⟨rfl, h⟩
        have HB6 := Lib.hid (HB5.out.trans (h.mono HB5.out.size))
        clear h
        go_wp2_with fail
        refine (val_any 1 1 0 a _ ka).mono ?_
        rintro e' w7 ⟨rfl, h⟩
        have HB7 := Lib.hid (HB6.out.trans (h.mono HB6.out.size))
        clear h
        rw [H1.out]
        go_wp2
        go_ret
        exact ⟨rfl, below_of HB7.out⟩
      · have hs := HS.out.1 hn
        have HXX := Lib.hid (show clipV a M = y ∧ clipF a M = f by rw [show a = x by rw [← HL.out, lim, if_neg hr, if_neg hr']]; exact ⟨HY.out, HF.out⟩)
        go_wp2_with fail
        refine (clip32 _ _).mono ?_
        rintro e' w' ⟨rfl, rfl⟩
        rw [HXX.out.1, HXX.out.2]
        clear c0 c1 c2 c3 c4 c5 c6 c7
        go_wp2_with fail
        refine (first_any _).mono ?_
        rintro e' w5 ⟨rfl, h⟩
        have HB5 := Lib.hid (HB4.out.trans (h.mono HB4.out.size))
        clear h
        go_wp2_with fail
        refine (p_any 1 1 0 _).mono ?_
        rintro e' w6 ⟨rfl, h⟩
        have HB6 := Lib.hid (HB5.out.trans (h.mono HB5.out.size))
        clear h
        go_wp2_with fail
        refine (val_any 1 1 0 a _ ka).mono ?_
        rintro e' w7 ⟨rfl, h⟩
        have HB7 := Lib.hid (HB6.out.trans (h.mono HB6.out.size))
        clear h
        rw [H1.out]
        go_wp2
        go_ret
        exact ⟨rfl, below_of HB7.out⟩
    · rcases (by omega : a < -2147483648 ∨ (¬ a < -2147483648 ∧ 4294967295 < a) ∨ (¬ a < -2147483648 ∧ ¬ 4294967295 < a)) with hr | ⟨hr, hr'⟩ | ⟨hr, hr'⟩
      · have hs := HS.out.2.1 hn'
        have HXX := Lib.hid (show clipV (-2147483648) M = y ∧ clipF (-2147483648) M = f by rw [show (-2147483648) = x by rw [← HL.out, lim, if_pos hr]]; exact ⟨HY.out, HF.out⟩)
        go_wp2_with fail
        refine (clip32 _ _).mono ?_
        rintro e' w' ⟨rfl, rfl⟩
        rw [HXX.out.1, HXX.out.2]
        clear c0 c1 c2 c3 c4 c5 c6 c7
        go_wp2_with fail
        refine (first_any _).mono ?_
        rintro e' w5 ⟨rfl, h⟩
        have HB5 := Lib.hid (HB4.out.trans (h.mono HB4.out.size))
        clear h
        go_wp2_with fail
        refine (p_any 1 1 0 _).mono ?_
        rintro e' w6 ⟨rfl, h⟩
        have HB6 := Lib.hid (HB5.out.trans (h.mono HB5.out.size))
        clear h
        go_wp2_with fail
        refine (val_any 1 1 0 a _ ka).mono ?_
        rintro e' w7 ⟨rfl, h⟩
        have HB7 := Lib.hid (HB6.out.trans (h.mono HB6.out.size))
        clear h
        rw [H1.out]
        go_wp2
        go_ret
        exact ⟨rfl, below_of HB7.out⟩
      · have hs := HS.out.2.1 hn'
        have HXX := Lib.hid (show clipV 4294967295 M = y ∧ clipF 4294967295 M = f by rw [show 4294967295 = x by rw [← HL.out, lim, if_neg hr, if_pos hr']]; exact ⟨HY.out, HF.out⟩)
        go_wp2_with fail
        refine (clip32 _ _).mono ?_
        rintro e' w' ⟨rfl, rfl⟩
        rw [HXX.out.1, HXX.out.2]
        clear c0 c1 c2 c3 c4 c5 c6 c7
        go_wp2_with fail
        refine (first_any _).mono ?_
        rintro e' w5 ⟨rfl, h⟩
        have HB5 := Lib.hid (HB4.out.trans (h.mono HB4.out.size))
        clear h
        go_wp2_with fail
        refine (p_any 1 1 0 _).mono ?_
        rintro e' w6 ⟨rfl, h⟩
        have HB6 := Lib.hid (HB5.out.trans (h.mono HB5.out.size))
        clear h
        go_wp2_with fail
        refine (val_any 1 1 0 a _ ka).mono ?_
        rintro e' w7 ⟨rfl, h⟩
        have HB7 := Lib.hid (HB6.out.trans (h.mono HB6.out.size))
        clear h
        rw [H1.out]
        go_wp2
        go_ret
        exact ⟨rfl, below_of HB7.out⟩
      · have hs := HS.out.2.1 hn'
        have HXX := Lib.hid (show clipV a M = y ∧ clipF a M = f by rw [show a = x by rw [← HL.out, lim, if_neg hr, if_neg hr']]; exact ⟨HY.out, HF.out⟩)
        go_wp2_with fail
        refine (clip32 _ _).mono ?_
        rintro e' w' ⟨rfl, rfl⟩
        rw [HXX.out.1, HXX.out.2]
        clear c0 c1 c2 c3 c4 c5 c6 c7
        go_wp2_with fail
        refine (first_any _).mono ?_
        rintro e' w5 ⟨rfl, h⟩
        have HB5 := Lib.hid (HB4.out.trans (h.mono HB4.out.size))
        clear h
        go_wp2_with fail
        refine (p_any 1 1 0 _).mono ?_
        rintro e' w6 ⟨rfl, h⟩
        have HB6 := Lib.hid (HB5.out.trans (h.mono HB5.out.size))
        clear h
        go_wp2_with fail
        refine (val_any 1 1 0 a _ ka).mono ?_
        rintro e' w7 ⟨rfl, h⟩
        have HB7 := Lib.hid (HB6.out.trans (h.mono HB6.out.size))
        clear h
        rw [H1.out]
        go_wp2
        go_ret
        exact ⟨rfl, below_of HB7.out⟩
    · rcases (by omega : a < -2147483648 ∨ (¬ a < -2147483648 ∧ 4294967295 < a) ∨ (¬ a < -2147483648 ∧ ¬ 4294967295 < a)) with hr | ⟨hr, hr'⟩ | ⟨hr, hr'⟩
      · have hz : n = 0 := by omega
        have hs := HS.out.2.2 hz
        subst hs
        subst hz
        have HXX := Lib.hid (show clipV (-2147483648) M = y ∧ clipF (-2147483648) M = f by rw [show (-2147483648) = x by rw [← HL.out, lim, if_pos hr]]; exact ⟨HY.out, HF.out⟩)
        go_wp2_with fail
        refine (clip32 _ _).mono ?_
        rintro e' w' ⟨rfl, rfl⟩
        rw [HXX.out.1, HXX.out.2]
        clear c0 c1 c2 c3 c4 c5 c6 c7
        go_wp2_with fail
        refine (first_any _).mono ?_
        rintro e' w5 ⟨rfl, h⟩
        have HB5 := Lib.hid (HB4.out.trans (h.mono HB4.out.size))
        clear h
        go_wp2_with fail
        refine (p_any 1 1 0 _).mono ?_
        rintro e' w6 ⟨rfl, h⟩
        have HB6 := Lib.hid (HB5.out.trans (h.mono HB5.out.size))
        clear h
        go_wp2_with fail
        refine (val_any 1 1 0 a _ ka).mono ?_
        rintro e' w7 ⟨rfl, h⟩
        have HB7 := Lib.hid (HB6.out.trans (h.mono HB6.out.size))
        clear h
        rw [H1.out]
        go_wp2
        go_ret
        exact ⟨rfl, below_of HB7.out⟩
      · have hz : n = 0 := by omega
        have hs := HS.out.2.2 hz
        subst hs
        subst hz
        have HXX := Lib.hid (show clipV 4294967295 M = y ∧ clipF 4294967295 M = f by rw [show 4294967295 = x by rw [← HL.out, lim, if_neg hr, if_pos hr']]; exact ⟨HY.out, HF.out⟩)
        go_wp2_with fail
        refine (clip32 _ _).mono ?_
        rintro e' w' ⟨rfl, rfl⟩
        rw [HXX.out.1, HXX.out.2]
        clear c0 c1 c2 c3 c4 c5 c6 c7
        go_wp2_with fail
        refine (first_any _).mono ?_
        rintro e' w5 ⟨rfl, h⟩
        have HB5 := Lib.hid (HB4.out.trans (h.mono HB4.out.size))
        clear h
        go_wp2_with fail
        refine (p_any 1 1 0 _).mono ?_
        rintro e' w6 ⟨rfl, h⟩
        have HB6 := Lib.hid (HB5.out.trans (h.mono HB5.out.size))
        clear h
        go_wp2_with fail
        refine (val_any 1 1 0 a _ ka).mono ?_
        rintro e' w7 ⟨rfl, h⟩
        have HB7 := Lib.hid (HB6.out.trans (h.mono HB6.out.size))
        clear h
        rw [H1.out]
        go_wp2
        go_ret
        exact ⟨rfl, below_of HB7.out⟩
      · have hz : n = 0 := by omega
        have hs := HS.out.2.2 hz
        subst hs
        subst hz
        have HXX := Lib.hid (show clipV a M = y ∧ clipF a M = f by rw [show a = x by rw [← HL.out, lim, if_neg hr, if_neg hr']]; exact ⟨HY.out, HF.out⟩)
        go_wp2_with fail
        refine (clip32 _ _).mono ?_
        rintro e' w' ⟨rfl, rfl⟩
        rw [HXX.out.1, HXX.out.2]
        clear c0 c1 c2 c3 c4 c5 c6 c7
        go_wp2_with fail
        refine (first_any _).mono ?_
        rintro e' w5 ⟨rfl, h⟩
        have HB5 := Lib.hid (HB4.out.trans (h.mono HB4.out.size))
        clear h
        go_wp2_with fail
        refine (p_any 1 1 0 _).mono ?_
        rintro e' w6 ⟨rfl, h⟩
        have HB6 := Lib.hid (HB5.out.trans (h.mono HB5.out.size))
        clear h
        go_wp2_with fail
        refine (val_any 1 1 0 a _ ka).mono ?_
        rintro e' w7 ⟨rfl, h⟩
        have HB7 := Lib.hid (HB6.out.trans (h.mono HB6.out.size))
        clear h
        rw [H1.out]
        go_wp2
        go_ret
        exact ⟨rfl, below_of HB7.out⟩

theorem clip_bounds (x : Int) : -2147483648 ≤ clipV x M ∧ clipV x M < 2147483648 := by simp only [clipV, M]; omega
theorem clip_mono {x y : Int} (h : x ≤ y) : clipV x M ≤ clipV y M := by simp only [clipV, M]; omega
theorem lim_mono {a b : Int} (h : a ≤ b) : lim a ≤ lim b := by unfold lim; omega
theorem apply_is {d n e o : Int} (h : mayN d n e o = true) (r : Int) : applyN d n e o r = clipV (quotN (lim r * n) e + o) M := by rw [applyN, h]; rfl
theorem apply_bounds (d n e o r : Int) : -2147483648 ≤ applyN d n e o r ∧ applyN d n e o r < 2147483648 := by
  unfold applyN
  split
  · exact clip_bounds _
  · decide
theorem apply_up {d n e o : Int} (h : mayN d n e o = true) {a b : Int} (hab : a ≤ b) : (0 < n → applyN d n e o a ≤ applyN d n e o b) ∧ (n < 0 → applyN d n e o b ≤ applyN d n e o a) ∧ (n = 0 → applyN d n e o a = applyN d n e o b) := by
  obtain ⟨_, he, _⟩ := may_bounds h
  have hl := lim_mono hab
  rw [apply_is h, apply_is h]
  refine ⟨fun hn => ?_, fun hn => ?_, fun hn => ?_⟩
  · have k := quot_mono (Int.mul_le_mul_of_nonneg_right hl (show 0 ≤ n by omega)) he.1
    exact clip_mono (by omega)
  · have k := quot_mono (Int.mul_le_mul_of_nonpos_right hl (show n ≤ 0 by omega)) he.1
    exact clip_mono (by omega)
  · rw [hn, Int.mul_zero, Int.mul_zero]
theorem rises_any (k q l c d n e o a b : Int) (w : World) (ka : -9223372036854775808 ≤ a ∧ a ≤ 9223372036854775807) (kb : -9223372036854775808 ≤ b ∧ b ≤ 9223372036854775807) : Calls Try.prog 5 #[.agg #[.int .i64 k, .int .i64 q, .int .i64 l, .int .i64 c, .int .i64 d, .int .i64 n, .int .i64 e, .int .i64 o], .int .i64 a, .int .i64 b] w fun e' w' => e' = .returned (.bool true) ∧ Below w.heap.size w w' := by
  rcases Bool.eq_false_or_eq_true (mayN d n e o) with h | h
  · have hl : (if b < a then b else a) ≤ (if a < b then b else a) := by split <;> split <;> omega
    obtain ⟨g1, g2, g3⟩ := apply_up h hl
    refine rises_yes k q l c d n e o a b _ _ _ _ _ w ka kb h rfl rfl rfl rfl rfl ?_ (apply_bounds _ _ _ _ _) g1 g2 g3
    rw [valN, apply_is (by decide), Int.mul_one, quot_one, Int.add_zero]
  · exact rises_no k q l c d n e o a b w ka h
end Go.Proofs.Ytpnmnghhcekfnaa
