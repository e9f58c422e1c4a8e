/- yardref7.May: for every request; memory that was there stands. -/
import Derived.Test.YtngfaailbkadfaaDoorQ1
namespace Go.Proofs.YtngfaailbkadfaaDoor
open Go.RowKit Go.Extern.Stop Go.Stop Go.Extern

theorem mayQ {f s c m n t : Int} {vs : List Int} (hm : fMost f = m) (hn : 1 ≤ c → c ≤ m → (if fReads f = true then 0 else c) = n) (ht : t = fTop f ∨ n = 0) : mayB f s c vs = (decide (1 ≤ c) && decide (c ≤ m) && decide (0 ≤ s) && decide (s ≤ 65536 - c) && decide ((vs.length : Int) = n) && allB vs t) := by
  rw [may_split, hm]
  by_cases h1 : 1 ≤ c
  · by_cases h2 : c ≤ m
    · rw [hn h1 h2]
      rcases ht with rfl | rfl
      · rfl
      · by_cases h3 : (vs.length : Int) = 0
        · have : vs = [] := List.length_eq_zero_iff.1 (by omega)
          subst this
          rfl
        · rw [decide_eq_false h3]
          simp
    · rw [decide_eq_false h2]
      simp
  · rw [decide_eq_false h1]
    simp

set_option maxRecDepth 100000 in
set_option maxHeartbeats 4000000 in
theorem rmay_1 (s c : Int) (v : Value) (vs : List Int) (w : World) (hv : IntsAt w v vs) (hl : vs.length ≤ 100000) : Calls Tryd.prog 13 #[.agg #[.int .i64 1, .int .i64 s, .int .i64 c, v]] w fun e w' => e = .returned (.bool (mayB 1 s c vs)) ∧ Below w.heap.size w w' := by
  have HV := Lib.hid hv
  have HL := Lib.hid hl
  have HQ : Hid (mayB 1 s c vs = (decide (1 ≤ c) && decide (c ≤ 2000) && decide (0 ≤ s) && decide (s ≤ 65536 - c) && decide ((vs.length : Int) = 0) && allB vs 0)) := Lib.hid (mayQ (by decide) (fun _ _ => by rw [if_pos (by decide)]) (.inr rfl))
  obtain ⟨ao, cap, rfl, _⟩ := hv
  have X0 : Hid (Below w.heap.size w (w.alloc (.cells #[.int .i64 1, .int .i64 s, .int .i64 c, .slice ao vs.length cap] 38))) := Lib.hid (below_new w _)
  clear hl
  rcases (show ¬ 1 ≤ c ∨ (1 ≤ c ∧ ¬ c ≤ 2000) ∨ (1 ≤ c ∧ c ≤ 2000 ∧ ¬ 0 ≤ s) ∨ (1 ≤ c ∧ c ≤ 2000 ∧ 0 ≤ s ∧ ¬ s ≤ 65536 - c) ∨ (1 ≤ c ∧ c ≤ 2000 ∧ 0 ≤ s ∧ s ≤ 65536 - c ∧ ¬ (vs.length : Int) = 0) ∨ (1 ≤ c ∧ c ≤ 2000 ∧ 0 ≤ s ∧ s ≤ 65536 - c ∧ (vs.length : Int) = 0) by omega) with h1 | ⟨h1, h2⟩ | ⟨h1, h2, h3⟩ | ⟨h1, h2, h3, h4⟩ | ⟨h1, h2, h3, h4, h5⟩ | ⟨h1, h2, h3, h4, h5⟩
  · have HN : Hid (mayB 1 s c vs = false) := Lib.hid (by rw [HQ.out, decide_eq_false h1]; rfl)
    go_enter Tryd.func13, Tryd.ntmps13
    go_wp2_with fail
    go_wp2
    go_ret
    rw [HN.out]
    exact ⟨rfl, X0.out⟩
  · have HN : Hid (mayB 1 s c vs = false) := Lib.hid (by rw [HQ.out, decide_eq_true h1, decide_eq_false h2]; rfl)
    go_enter Tryd.func13, Tryd.ntmps13
    go_wp2_with fail
    go_wp2
    go_ret
    rw [HN.out]
    exact ⟨rfl, X0.out⟩
  · have HN : Hid (mayB 1 s c vs = false) := Lib.hid (by rw [HQ.out, decide_eq_true h1, decide_eq_true h2, decide_eq_false h3]; rfl)
    go_enter Tryd.func13, Tryd.ntmps13
    go_wp2_with fail
    go_wp2
    go_ret
    rw [HN.out]
    exact ⟨rfl, X0.out⟩
  · have HN : Hid (mayB 1 s c vs = false) := Lib.hid (by rw [HQ.out, decide_eq_true h1, decide_eq_true h2, decide_eq_true h3, decide_eq_false h4]; rfl)
    go_enter Tryd.func13, Tryd.ntmps13
    go_wp2_with fail
    go_wp2
    go_ret
    rw [HN.out]
    exact ⟨rfl, X0.out⟩
  · have HN : Hid (mayB 1 s c vs = false) := Lib.hid (by rw [HQ.out, decide_eq_true h1, decide_eq_true h2, decide_eq_true h3, decide_eq_true h4, decide_eq_false h5]; rfl)
    have h6 : ((vs.length : Int) == 0) = false := beq_eq_false_iff_ne.2 h5
    clear h5
    go_enter Tryd.func13, Tryd.ntmps13
    go_wp2_with fail
    go_wp2
    go_ret
    rw [HN.out]
    exact ⟨rfl, X0.out⟩
  · have HN : Hid (mayB 1 s c vs = allB vs 0) := Lib.hid (by rw [HQ.out, decide_eq_true h1, decide_eq_true h2, decide_eq_true h3, decide_eq_true h4, decide_eq_true h5]; rfl)
    have h6 : ((vs.length : Int) == 0) = true := beq_iff_eq.2 h5
    clear h5
    go_enter Tryd.func13, Tryd.ntmps13
    go_wp2_with fail
    refine (all_any _ vs 0 _ (HV.out.on X0.out) (by have := HL.out; omega)).mono ?_
    rintro e w2 ⟨rfl, rfl⟩
    go_wp2
    go_ret
    rw [HN.out]
    exact ⟨rfl, X0.out⟩

set_option maxRecDepth 100000 in
set_option maxHeartbeats 4000000 in
theorem rmay_2 (s c : Int) (v : Value) (vs : List Int) (w : World) (hv : IntsAt w v vs) (hl : vs.length ≤ 100000) : Calls Tryd.prog 13 #[.agg #[.int .i64 2, .int .i64 s, .int .i64 c, v]] w fun e w' => e = .returned (.bool (mayB 2 s c vs)) ∧ Below w.heap.size w w' := by
  have HV := Lib.hid hv
  have HL := Lib.hid hl
  have HQ : Hid (mayB 2 s c vs = (decide (1 ≤ c) && decide (c ≤ 2000) && decide (0 ≤ s) && decide (s ≤ 65536 - c) && decide ((vs.length : Int) = 0) && allB vs 0)) := Lib.hid (mayQ (by decide) (fun _ _ => by rw [if_pos (by decide)]) (.inr rfl))
  obtain ⟨ao, cap, rfl, _⟩ := hv
  have X0 : Hid (Below w.heap.size w (w.alloc (.cells #[.int .i64 2, .int .i64 s, .int .i64 c, .slice ao vs.length cap] 38))) := Lib.hid (below_new w _)
  clear hl
  rcases (show ¬ 1 ≤ c ∨ (1 ≤ c ∧ ¬ c ≤ 2000) ∨ (1 ≤ c ∧ c ≤ 2000 ∧ ¬ 0 ≤ s) ∨ (1 ≤ c ∧ c ≤ 2000 ∧ 0 ≤ s ∧ ¬ s ≤ 65536 - c) ∨ (1 ≤ c ∧ c ≤ 2000 ∧ 0 ≤ s ∧ s ≤ 65536 - c ∧ ¬ (vs.length : Int) = 0) ∨ (1 ≤ c ∧ c ≤ 2000 ∧ 0 ≤ s ∧ s ≤ 65536 - c ∧ (vs.length : Int) = 0) by omega) with h1 | ⟨h1, h2⟩ | ⟨h1, h2, h3⟩ | ⟨h1, h2, h3, h4⟩ | ⟨h1, h2, h3, h4, h5⟩ | ⟨h1, h2, h3, h4, h5⟩
  · have HN : Hid (mayB 2 s c vs = false) := Lib.hid (by rw [HQ.out, decide_eq_false h1]; rfl)
    go_enter Tryd.func13, Tryd.ntmps13
    go_wp2_with fail
    go_wp2
    go_ret
    rw [HN.out]
    exact ⟨rfl, X0.out⟩
  · have HN : Hid (mayB 2 s c vs = false) := Lib.hid (by rw [HQ.out, decide_eq_true h1, decide_eq_false h2]; rfl)
    go_enter Tryd.func13, Tryd.ntmps13
    go_wp2_with fail
    go_wp2
    go_ret
    rw [HN.out]
    exact ⟨rfl, X0.out⟩
  · have HN : Hid (mayB 2 s c vs = false) := Lib.hid (by rw [HQ.out, decide_eq_true h1, decide_eq_true h2, decide_eq_false h3]; rfl)
    go_enter Tryd.func13, Tryd.ntmps13
    go_wp2_with fail
    go_wp2
    go_ret
    rw [HN.out]
    exact ⟨rfl, X0.out⟩
  · have HN : Hid (mayB 2 s c vs = false) := Lib.hid (by rw [HQ.out, decide_eq_true h1, decide_eq_true h2, decide_eq_true h3, decide_eq_false h4]; rfl)
    go_enter Tryd.func13, Tryd.ntmps13
    go_wp2_with fail
    go_wp2
    go_ret
    rw [HN.out]
    exact ⟨rfl, X0.out⟩
  · have HN : Hid (mayB 2 s c vs = false) := Lib.hid (by rw [HQ.out, decide_eq_true h1, decide_eq_true h2, decide_eq_true h3, decide_eq_true h4, decide_eq_false h5]; rfl)
    have h6 : ((vs.length : Int) == 0) = false := beq_eq_false_iff_ne.2 h5
    clear h5
    go_enter Tryd.func13, Tryd.ntmps13
    go_wp2_with fail
    go_wp2
    go_ret
    rw [HN.out]
    exact ⟨rfl, X0.out⟩
  · have HN : Hid (mayB 2 s c vs = allB vs 0) := Lib.hid (by rw [HQ.out, decide_eq_true h1, decide_eq_true h2, decide_eq_true h3, decide_eq_true h4, decide_eq_true h5]; rfl)
    have h6 : ((vs.length : Int) == 0) = true := beq_iff_eq.2 h5
    clear h5
    go_enter Tryd.func13, Tryd.ntmps13
    go_wp2_with fail
    refine (all_any _ vs 0 _ (HV.out.on X0.out) (by have := HL.out; omega)).mono ?_
    rintro e w2 ⟨rfl, rfl⟩
    go_wp2
    go_ret
    rw [HN.out]
    exact ⟨rfl, X0.out⟩

set_option maxRecDepth 100000 in
set_option maxHeartbeats 4000000 in
theorem rmay_3 (s c : Int) (v : Value) (vs : List Int) (w : World) (hv : IntsAt w v vs) (hl : vs.length ≤ 100000) : Calls Tryd.prog 13 #[.agg #[.int .i64 3, .int .i64 s, .int .i64 c, v]] w fun e w' => e = .returned (.bool (mayB 3 s c vs)) ∧ Below w.heap.size w w' := by
  have HV := Lib.hid hv
  have HL := Lib.hid hl
  have HQ : Hid (mayB 3 s c vs = (decide (1 ≤ c) && decide (c ≤ 125) && decide (0 ≤ s) && decide (s ≤ 65536 - c) && decide ((vs.length : Int) = 0) && allB vs 0)) := Lib.hid (mayQ (by decide) (fun _ _ => by rw [if_pos (by decide)]) (.inr rfl))
  obtain ⟨ao, cap, rfl, _⟩ := hv
  have X0 : Hid (Below w.heap.size w (w.alloc (.cells #[.int .i64 3, .int .i64 s, .int .i64 c, .slice ao vs.length cap] 38))) := Lib.hid (below_new w _)
  clear hl
  rcases (show ¬ 1 ≤ c ∨ (1 ≤ c ∧ ¬ c ≤ 125) ∨ (1 ≤ c ∧ c ≤ 125 ∧ ¬ 0 ≤ s) ∨ (1 ≤ c ∧ c ≤ 125 ∧ 0 ≤ s ∧ ¬ s ≤ 65536 - c) ∨ (1 ≤ c ∧ c ≤ 125 ∧ 0 ≤ s ∧ s ≤ 65536 - c ∧ ¬ (vs.length : Int) = 0) ∨ (1 ≤ c ∧ c ≤ 125 ∧ 0 ≤ s ∧ s ≤ 65536 - c ∧ (vs.length : Int) = 0) by omega) with h1 | ⟨h1, h2⟩ | ⟨h1, h2, h3⟩ | ⟨h1, h2, h3, h4⟩ | ⟨h1, h2, h3, h4, h5⟩ | ⟨h1, h2, h3, h4, h5⟩
  · have HN : Hid (mayB 3 s c vs = false) := Lib.hid (by rw [HQ.out, decide_eq_false h1]; rfl)
    go_enter Tryd.func13, Tryd.ntmps13
    go_wp2_with fail
    go_wp2
    go_ret
    rw [HN.out]
    exact ⟨rfl, X0.out⟩
  · have HN : Hid (mayB 3 s c vs = false) := Lib.hid (by rw [HQ.out, decide_eq_true h1, decide_eq_false h2]; rfl)
    go_enter Tryd.func13, Tryd.ntmps13
    go_wp2_with fail
    go_wp2
    go_ret
    rw [HN.out]
    exact ⟨rfl, X0.out⟩
  · have HN : Hid (mayB 3 s c vs = false) := Lib.hid (by rw [HQ.out, decide_eq_true h1, decide_eq_true h2, decide_eq_false h3]; rfl)
    go_enter Tryd.func13, Tryd.ntmps13
    go_wp2_with fail
    go_wp2
    go_ret
    rw [HN.out]
    exact ⟨rfl, X0.out⟩
  · have HN : Hid (mayB 3 s c vs = false) := Lib.hid (by rw [HQ.out, decide_eq_true h1, decide_eq_true h2, decide_eq_true h3, decide_eq_false h4]; rfl)
    go_enter Tryd.func13, Tryd.ntmps13
    go_wp2_with fail
    go_wp2
    go_ret
    rw [HN.out]
    exact ⟨rfl, X0.out⟩
  · have HN : Hid (mayB 3 s c vs = false) := Lib.hid (by rw [HQ.out, decide_eq_true h1, decide_eq_true h2, decide_eq_true h3, decide_eq_true h4, decide_eq_false h5]; rfl)
    have h6 : ((vs.length : Int) == 0) = false := beq_eq_false_iff_ne.2 h5
    clear h5
    go_enter Tryd.func13, Tryd.ntmps13
    go_wp2_with fail
    go_wp2
    go_ret
    rw [HN.out]
    exact ⟨rfl, X0.out⟩
  · have HN : Hid (mayB 3 s c vs = allB vs 0) := Lib.hid (by rw [HQ.out, decide_eq_true h1, decide_eq_true h2, decide_eq_true h3, decide_eq_true h4, decide_eq_true h5]; rfl)
    have h6 : ((vs.length : Int) == 0) = true := beq_iff_eq.2 h5
    clear h5
    go_enter Tryd.func13, Tryd.ntmps13
    go_wp2_with fail
    refine (all_any _ vs 0 _ (HV.out.on X0.out) (by have := HL.out; omega)).mono ?_
    rintro e w2 ⟨rfl, rfl⟩
    go_wp2
    go_ret
    rw [HN.out]
    exact ⟨rfl, X0.out⟩

set_option maxRecDepth 100000 in
set_option maxHeartbeats 4000000 in
theorem rmay_4 (s c : Int) (v : Value) (vs : List Int) (w : World) (hv : IntsAt w v vs) (hl : vs.length ≤ 100000) : Calls Tryd.prog 13 #[.agg #[.int .i64 4, .int .i64 s, .int .i64 c, v]] w fun e w' => e = .returned (.bool (mayB 4 s c vs)) ∧ Below w.heap.size w w' := by
  have HV := Lib.hid hv
  have HL := Lib.hid hl
  have HQ : Hid (mayB 4 s c vs = (decide (1 ≤ c) && decide (c ≤ 125) && decide (0 ≤ s) && decide (s ≤ 65536 - c) && decide ((vs.length : Int) = 0) && allB vs 0)) := Lib.hid (mayQ (by decide) (fun _ _ => by rw [if_pos (by decide)]) (.inr rfl))
  obtain ⟨ao, cap, rfl, _⟩ := hv
  have X0 : Hid (Below w.heap.size w (w.alloc (.cells #[.int .i64 4, .int .i64 s, .int .i64 c, .slice ao vs.length cap] 38))) := Lib.hid (below_new w _)
  clear hl
  rcases (show ¬ 1 ≤ c ∨ (1 ≤ c ∧ ¬ c ≤ 125) ∨ (1 ≤ c ∧ c ≤ 125 ∧ ¬ 0 ≤ s) ∨ (1 ≤ c ∧ c ≤ 125 ∧ 0 ≤ s ∧ ¬ s ≤ 65536 - c) ∨ (1 ≤ c ∧ c ≤ 125 ∧ 0 ≤ s ∧ s ≤ 65536 - c ∧ ¬ (vs.length : Int) = 0) ∨ (1 ≤ c ∧ c ≤ 125 ∧ 0 ≤ s ∧ s ≤ 65536 - c ∧ (vs.length : Int) = 0) by omega) with h1 | ⟨h1, h2⟩ | ⟨h1, h2, h3⟩ | ⟨h1, h2, h3, h4⟩ | ⟨h1, h2, h3, h4, h5⟩ | ⟨h1, h2, h3, h4, h5⟩
  · have HN : Hid (mayB 4 s c vs = false) := Lib.hid (by rw [HQ.out, decide_eq_false h1]; rfl)
    go_enter Tryd.func13, Tryd.ntmps13
    go_wp2_with fail
    go_wp2
    go_ret
    rw [HN.out]
    exact ⟨rfl, X0.out⟩
  · have HN : Hid (mayB 4 s c vs = false) := Lib.hid (by rw [HQ.out, decide_eq_true h1, decide_eq_false h2]; rfl)
    go_enter Tryd.func13, Tryd.ntmps13
    go_wp2_with fail
    go_wp2
    go_ret
    rw [HN.out]
    exact ⟨rfl, X0.out⟩
  · have HN : Hid (mayB 4 s c vs = false) := Lib.hid (by rw [HQ.out, decide_eq_true h1, decide_eq_true h2, decide_eq_false h3]; rfl)
    go_enter Tryd.func13, Tryd.ntmps13
    go_wp2_with fail
    go_wp2
    go_ret
    rw [HN.out]
    exact ⟨rfl, X0.out⟩
  · have HN : Hid (mayB 4 s c vs = false) := Lib.hid (by rw [HQ.out, decide_eq_true h1, decide_eq_true h2, decide_eq_true h3, decide_eq_false h4]; rfl)
    go_enter Tryd.func13, Tryd.ntmps13
    go_wp2_with fail
    go_wp2
    go_ret
    rw [HN.out]
    exact ⟨rfl, X0.out⟩
  · have HN : Hid (mayB 4 s c vs = false) := Lib.hid (by rw [HQ.out, decide_eq_true h1, decide_eq_true h2, decide_eq_true h3, decide_eq_true h4, decide_eq_false h5]; rfl)
    have h6 : ((vs.length : Int) == 0) = false := beq_eq_false_iff_ne.2 h5
    clear h5
    go_enter Tryd.func13, Tryd.ntmps13
    go_wp2_with fail
    go_wp2
    go_ret
    rw [HN.out]
    exact ⟨rfl, X0.out⟩
  · have HN : Hid (mayB 4 s c vs = allB vs 0) := Lib.hid (by rw [HQ.out, decide_eq_true h1, decide_eq_true h2, decide_eq_true h3, decide_eq_true h4, decide_eq_true h5]; rfl)
    have h6 : ((vs.length : Int) == 0) = true := beq_iff_eq.2 h5
    clear h5
    go_enter Tryd.func13, Tryd.ntmps13
    go_wp2_with fail
    refine (all_any _ vs 0 _ (HV.out.on X0.out) (by have := HL.out; omega)).mono ?_
    rintro e w2 ⟨rfl, rfl⟩
    go_wp2
    go_ret
    rw [HN.out]
    exact ⟨rfl, X0.out⟩

set_option maxRecDepth 100000 in
set_option maxHeartbeats 4000000 in
theorem rmay_5 (s c : Int) (v : Value) (vs : List Int) (w : World) (hv : IntsAt w v vs) (hl : vs.length ≤ 100000) : Calls Tryd.prog 13 #[.agg #[.int .i64 5, .int .i64 s, .int .i64 c, v]] w fun e w' => e = .returned (.bool (mayB 5 s c vs)) ∧ Below w.heap.size w w' := by
  have HV := Lib.hid hv
  have HL := Lib.hid hl
  have HQ : Hid (mayB 5 s c vs = (decide (1 ≤ c) && decide (c ≤ 1) && decide (0 ≤ s) && decide (s ≤ 65536 - c) && decide ((vs.length : Int) = 1) && allB vs 1)) := Lib.hid (mayQ (by decide) (fun _ _ => by rw [if_neg (by decide)]; omega) (.inl (by decide)))
  obtain ⟨ao, cap, rfl, _⟩ := hv
  have X0 : Hid (Below w.heap.size w (w.alloc (.cells #[.int .i64 5, .int .i64 s, .int .i64 c, .slice ao vs.length cap] 38))) := Lib.hid (below_new w _)
  clear hl
  rcases (show ¬ 1 ≤ c ∨ (1 ≤ c ∧ ¬ c ≤ 1) ∨ (1 ≤ c ∧ c ≤ 1 ∧ ¬ 0 ≤ s) ∨ (1 ≤ c ∧ c ≤ 1 ∧ 0 ≤ s ∧ ¬ s ≤ 65536 - c) ∨ (1 ≤ c ∧ c ≤ 1 ∧ 0 ≤ s ∧ s ≤ 65536 - c ∧ ¬ (vs.length : Int) = 1) ∨ (1 ≤ c ∧ c ≤ 1 ∧ 0 ≤ s ∧ s ≤ 65536 - c ∧ (vs.length : Int) = 1) by omega) with h1 | ⟨h1, h2⟩ | ⟨h1, h2, h3⟩ | ⟨h1, h2, h3, h4⟩ | ⟨h1, h2, h3, h4, h5⟩ | ⟨h1, h2, h3, h4, h5⟩
  · have HN : Hid (mayB 5 s c vs = false) := Lib.hid (by rw [HQ.out, decide_eq_false h1]; rfl)
    go_enter Tryd.func13, Tryd.ntmps13
    go_wp2_with fail
    go_wp2
    go_ret
    rw [HN.out]
    exact ⟨rfl, X0.out⟩
  · have HN : Hid (mayB 5 s c vs = false) := Lib.hid (by rw [HQ.out, decide_eq_true h1, decide_eq_false h2]; rfl)
    go_enter Tryd.func13, Tryd.ntmps13
    go_wp2_with fail
    go_wp2
    go_ret
    rw [HN.out]
    exact ⟨rfl, X0.out⟩
  · have HN : Hid (mayB 5 s c vs = false) := Lib.hid (by rw [HQ.out, decide_eq_true h1, decide_eq_true h2, decide_eq_false h3]; rfl)
    go_enter Tryd.func13, Tryd.ntmps13
    go_wp2_with fail
    go_wp2
    go_ret
    rw [HN.out]
    exact ⟨rfl, X0.out⟩
  · have HN : Hid (mayB 5 s c vs = false) := Lib.hid (by rw [HQ.out, decide_eq_true h1, decide_eq_true h2, decide_eq_true h3, decide_eq_false h4]; rfl)
    go_enter Tryd.func13, Tryd.ntmps13
    go_wp2_with fail
    go_wp2
    go_ret
    rw [HN.out]
    exact ⟨rfl, X0.out⟩
  · have HN : Hid (mayB 5 s c vs = false) := Lib.hid (by rw [HQ.out, decide_eq_true h1, decide_eq_true h2, decide_eq_true h3, decide_eq_true h4, decide_eq_false h5]; rfl)
    have h6 : ((vs.length : Int) == 1) = false := beq_eq_false_iff_ne.2 h5
    clear h5
    go_enter Tryd.func13, Tryd.ntmps13
    go_wp2_with fail
    go_wp2
    go_ret
    rw [HN.out]
    exact ⟨rfl, X0.out⟩
  · have HN : Hid (mayB 5 s c vs = allB vs 1) := Lib.hid (by rw [HQ.out, decide_eq_true h1, decide_eq_true h2, decide_eq_true h3, decide_eq_true h4, decide_eq_true h5]; rfl)
    have h6 : ((vs.length : Int) == 1) = true := beq_iff_eq.2 h5
    clear h5
    go_enter Tryd.func13, Tryd.ntmps13
    go_wp2_with fail
    refine (all_any _ vs 1 _ (HV.out.on X0.out) (by have := HL.out; omega)).mono ?_
    rintro e w2 ⟨rfl, rfl⟩
    go_wp2
    go_ret
    rw [HN.out]
    exact ⟨rfl, X0.out⟩

set_option maxRecDepth 100000 in
set_option maxHeartbeats 4000000 in
theorem rmay_6 (s c : Int) (v : Value) (vs : List Int) (w : World) (hv : IntsAt w v vs) (hl : vs.length ≤ 100000) : Calls Tryd.prog 13 #[.agg #[.int .i64 6, .int .i64 s, .int .i64 c, v]] w fun e w' => e = .returned (.bool (mayB 6 s c vs)) ∧ Below w.heap.size w w' := by
  have HV := Lib.hid hv
  have HL := Lib.hid hl
  have HQ : Hid (mayB 6 s c vs = (decide (1 ≤ c) && decide (c ≤ 1) && decide (0 ≤ s) && decide (s ≤ 65536 - c) && decide ((vs.length : Int) = 1) && allB vs 65535)) := Lib.hid (mayQ (by decide) (fun _ _ => by rw [if_neg (by decide)]; omega) (.inl (by decide)))
  obtain ⟨ao, cap, rfl, _⟩ := hv
  have X0 : Hid (Below w.heap.size w (w.alloc (.cells #[.int .i64 6, .int .i64 s, .int .i64 c, .slice ao vs.length cap] 38))) := Lib.hid (below_new w _)
  clear hl
  rcases (show ¬ 1 ≤ c ∨ (1 ≤ c ∧ ¬ c ≤ 1) ∨ (1 ≤ c ∧ c ≤ 1 ∧ ¬ 0 ≤ s) ∨ (1 ≤ c ∧ c ≤ 1 ∧ 0 ≤ s ∧ ¬ s ≤ 65536 - c) ∨ (1 ≤ c ∧ c ≤ 1 ∧ 0 ≤ s ∧ s ≤ 65536 - c ∧ ¬ (vs.length : Int) = 1) ∨ (1 ≤ c ∧ c ≤ 1 ∧ 0 ≤ s ∧ s ≤ 65536 - c ∧ (vs.length : Int) = 1) by omega) with h1 | ⟨h1, h2⟩ | ⟨h1, h2, h3⟩ | ⟨h1, h2, h3, h4⟩ | ⟨h1, h2, h3, h4, h5⟩ | ⟨h1, h2, h3, h4, h5⟩
  · have HN : Hid (mayB 6 s c vs = false) := Lib.hid (by rw [HQ.out, decide_eq_false h1]; rfl)
    go_enter Tryd.func13, Tryd.ntmps13
    go_wp2_with fail
    go_wp2
    go_ret
    rw [HN.out]
    exact ⟨rfl, X0.out⟩
  · have HN : Hid (mayB 6 s c vs = false) := Lib.hid (by rw [HQ.out, decide_eq_true h1, decide_eq_false h2]; rfl)
    go_enter Tryd.func13, Tryd.ntmps13
    go_wp2_with fail
    go_wp2
    go_ret
    rw [HN.out]
    exact ⟨rfl, X0.out⟩
  · have HN : Hid (mayB 6 s c vs = false) := Lib.hid (by rw [HQ.out, decide_eq_true h1, decide_eq_true h2, decide_eq_false h3]; rfl)
    go_enter Tryd.func13, Tryd.ntmps13
    go_wp2_with fail
    go_wp2
    go_ret
    rw [HN.out]
    exact ⟨rfl, X0.out⟩
  · have HN : Hid (mayB 6 s c vs = false) := Lib.hid (by rw [HQ.out, decide_eq_true h1, decide_eq_true h2, decide_eq_true h3, decide_eq_false h4]; rfl)
    go_enter Tryd.func13, Tryd.ntmps13
    go_wp2_with fail
    go_wp2
    go_ret
    rw [HN.out]
    exact ⟨rfl, X0.out⟩
  · have HN : Hid (mayB 6 s c vs = false) := Lib.hid (by rw [HQ.out, decide_eq_true h1, decide_eq_true h2, decide_eq_true h3, decide_eq_true h4, decide_eq_false h5]; rfl)
    have h6 : ((vs.length : Int) == 1) = false := beq_eq_false_iff_ne.2 h5
    clear h5
    go_enter Tryd.func13, Tryd.ntmps13
    go_wp2_with fail
    go_wp2
    go_ret
    rw [HN.out]
    exact ⟨rfl, X0.out⟩
  · have HN : Hid (mayB 6 s c vs = allB vs 65535) := Lib.hid (by rw [HQ.out, decide_eq_true h1, decide_eq_true h2, decide_eq_true h3, decide_eq_true h4, decide_eq_true h5]; rfl)
    have h6 : ((vs.length : Int) == 1) = true := beq_iff_eq.2 h5
    clear h5
    go_enter Tryd.func13, Tryd.ntmps13
    go_wp2_with fail
    refine (all_any _ vs 65535 _ (HV.out.on X0.out) (by have := HL.out; omega)).mono ?_
    rintro e w2 ⟨rfl, rfl⟩
    go_wp2
    go_ret
    rw [HN.out]
    exact ⟨rfl, X0.out⟩

set_option maxRecDepth 100000 in
set_option maxHeartbeats 4000000 in
theorem rmay_15 (s c : Int) (v : Value) (vs : List Int) (w : World) (hv : IntsAt w v vs) (hl : vs.length ≤ 100000) : Calls Tryd.prog 13 #[.agg #[.int .i64 15, .int .i64 s, .int .i64 c, v]] w fun e w' => e = .returned (.bool (mayB 15 s c vs)) ∧ Below w.heap.size w w' := by
  have HV := Lib.hid hv
  have HL := Lib.hid hl
  have HQ : Hid (mayB 15 s c vs = (decide (1 ≤ c) && decide (c ≤ 1968) && decide (0 ≤ s) && decide (s ≤ 65536 - c) && decide ((vs.length : Int) = c) && allB vs 1)) := Lib.hid (mayQ (by decide) (fun _ _ => by rw [if_neg (by decide)]) (.inl (by decide)))
  obtain ⟨ao, cap, rfl, _⟩ := hv
  have X0 : Hid (Below w.heap.size w (w.alloc (.cells #[.int .i64 15, .int .i64 s, .int .i64 c, .slice ao vs.length cap] 38))) := Lib.hid (below_new w _)
  clear hl
  rcases (show ¬ 1 ≤ c ∨ (1 ≤ c ∧ ¬ c ≤ 1968) ∨ (1 ≤ c ∧ c ≤ 1968 ∧ ¬ 0 ≤ s) ∨ (1 ≤ c ∧ c ≤ 1968 ∧ 0 ≤ s ∧ ¬ s ≤ 65536 - c) ∨ (1 ≤ c ∧ c ≤ 1968 ∧ 0 ≤ s ∧ s ≤ 65536 - c ∧ ¬ (vs.length : Int) = c) ∨ (1 ≤ c ∧ c ≤ 1968 ∧ 0 ≤ s ∧ s ≤ 65536 - c ∧ (vs.length : Int) = c) by omega) with h1 | ⟨h1, h2⟩ | ⟨h1, h2, h3⟩ | ⟨h1, h2, h3, h4⟩ | ⟨h1, h2, h3, h4, h5⟩ | ⟨h1, h2, h3, h4, h5⟩
  · have HN : Hid (mayB 15 s c vs = false) := Lib.hid (by rw [HQ.out, decide_eq_false h1]; rfl)
    go_enter Tryd.func13, Tryd.ntmps13
    go_wp2_with fail
    go_quiet (fail)
    generalize hwq : (w.alloc (.cells #[.int .i64 15, .int .i64 s, .int .i64 c, .slice ao vs.length cap] 38)).drewN nq = wq
    have XQ : Hid (Below w.heap.size w wq) := Lib.hid (by rw [← hwq]; exact below_drewN' (below_new w _) nq)
    have BQ : Hid (BoxQ wq w.heap.size 15 s c (.slice ao vs.length cap)) := Lib.hid (by rw [← hwq]; exact heap_alloc_new w _)
    clear hwq
    obtain ⟨k0, k1, k2, k3⟩ := cells4 BQ.out
    go_wp2
    go_ret
    rw [HN.out]
    exact ⟨rfl, XQ.out⟩
  · have HN : Hid (mayB 15 s c vs = false) := Lib.hid (by rw [HQ.out, decide_eq_true h1, decide_eq_false h2]; rfl)
    go_enter Tryd.func13, Tryd.ntmps13
    go_wp2_with fail
    go_quiet (fail)
    generalize hwq : (w.alloc (.cells #[.int .i64 15, .int .i64 s, .int .i64 c, .slice ao vs.length cap] 38)).drewN nq = wq
    have XQ : Hid (Below w.heap.size w wq) := Lib.hid (by rw [← hwq]; exact below_drewN' (below_new w _) nq)
    have BQ : Hid (BoxQ wq w.heap.size 15 s c (.slice ao vs.length cap)) := Lib.hid (by rw [← hwq]; exact heap_alloc_new w _)
    clear hwq
    obtain ⟨k0, k1, k2, k3⟩ := cells4 BQ.out
    go_wp2
    go_ret
    rw [HN.out]
    exact ⟨rfl, XQ.out⟩
  · have HN : Hid (mayB 15 s c vs = false) := Lib.hid (by rw [HQ.out, decide_eq_true h1, decide_eq_true h2, decide_eq_false h3]; rfl)
    go_enter Tryd.func13, Tryd.ntmps13
    go_wp2_with fail
    go_quiet (fail)
    generalize hwq : (w.alloc (.cells #[.int .i64 15, .int .i64 s, .int .i64 c, .slice ao vs.length cap] 38)).drewN nq = wq
    have XQ : Hid (Below w.heap.size w wq) := Lib.hid (by rw [← hwq]; exact below_drewN' (below_new w _) nq)
    have BQ : Hid (BoxQ wq w.heap.size 15 s c (.slice ao vs.length cap)) := Lib.hid (by rw [← hwq]; exact heap_alloc_new w _)
    clear hwq
    obtain ⟨k0, k1, k2, k3⟩ := cells4 BQ.out
    go_wp2
    go_ret
    rw [HN.out]
    exact ⟨rfl, XQ.out⟩
  · have HN : Hid (mayB 15 s c vs = false) := Lib.hid (by rw [HQ.out, decide_eq_true h1, decide_eq_true h2, decide_eq_true h3, decide_eq_false h4]; rfl)
    go_enter Tryd.func13, Tryd.ntmps13
    go_wp2_with fail
    go_quiet (fail)
    generalize hwq : (w.alloc (.cells #[.int .i64 15, .int .i64 s, .int .i64 c, .slice ao vs.length cap] 38)).drewN nq = wq
    have XQ : Hid (Below w.heap.size w wq) := Lib.hid (by rw [← hwq]; exact below_drewN' (below_new w _) nq)
    have BQ : Hid (BoxQ wq w.heap.size 15 s c (.slice ao vs.length cap)) := Lib.hid (by rw [← hwq]; exact heap_alloc_new w _)
    clear hwq
    obtain ⟨k0, k1, k2, k3⟩ := cells4 BQ.out
    go_wp2
    go_ret
    rw [HN.out]
    exact ⟨rfl, XQ.out⟩
  · have HN : Hid (mayB 15 s c vs = false) := Lib.hid (by rw [HQ.out, decide_eq_true h1, decide_eq_true h2, decide_eq_true h3, decide_eq_true h4, decide_eq_false h5]; rfl)
    have h6 : ((vs.length : Int) == c) = false := beq_eq_false_iff_ne.2 h5
    clear h5
    go_enter Tryd.func13, Tryd.ntmps13
    go_wp2_with fail
    go_quiet (fail)
    generalize hwq : (w.alloc (.cells #[.int .i64 15, .int .i64 s, .int .i64 c, .slice ao vs.length cap] 38)).drewN nq = wq
    have XQ : Hid (Below w.heap.size w wq) := Lib.hid (by rw [← hwq]; exact below_drewN' (below_new w _) nq)
    have BQ : Hid (BoxQ wq w.heap.size 15 s c (.slice ao vs.length cap)) := Lib.hid (by rw [← hwq]; exact heap_alloc_new w _)
    clear hwq
    obtain ⟨k0, k1, k2, k3⟩ := cells4 BQ.out
    go_wp2
    go_ret
    rw [HN.out]
    exact ⟨rfl, XQ.out⟩
  · have HN : Hid (mayB 15 s c vs = allB vs 1) := Lib.hid (by rw [HQ.out, decide_eq_true h1, decide_eq_true h2, decide_eq_true h3, decide_eq_true h4, decide_eq_true h5]; rfl)
    have h6 : ((vs.length : Int) == c) = true := beq_iff_eq.2 h5
    clear h5
    go_enter Tryd.func13, Tryd.ntmps13
    go_wp2_with fail
    go_quiet (fail)
    generalize hwq : (w.alloc (.cells #[.int .i64 15, .int .i64 s, .int .i64 c, .slice ao vs.length cap] 38)).drewN nq = wq
    have XQ : Hid (Below w.heap.size w wq) := Lib.hid (by rw [← hwq]; exact below_drewN' (below_new w _) nq)
    have BQ : Hid (BoxQ wq w.heap.size 15 s c (.slice ao vs.length cap)) := Lib.hid (by rw [← hwq]; exact heap_alloc_new w _)
    clear hwq
    obtain ⟨k0, k1, k2, k3⟩ := cells4 BQ.out
    go_wp2_with fail
    refine (all_any _ vs 1 _ (HV.out.on XQ.out) (by have := HL.out; omega)).mono ?_
    rintro e w2 ⟨rfl, rfl⟩
    go_wp2
    go_ret
    rw [HN.out]
    exact ⟨rfl, XQ.out⟩

set_option maxRecDepth 100000 in
set_option maxHeartbeats 4000000 in
theorem rmay_16 (s c : Int) (v : Value) (vs : List Int) (w : World) (hv : IntsAt w v vs) (hl : vs.length ≤ 100000) : Calls Tryd.prog 13 #[.agg #[.int .i64 16, .int .i64 s, .int .i64 c, v]] w fun e w' => e = .returned (.bool (mayB 16 s c vs)) ∧ Below w.heap.size w w' := by
  have HV := Lib.hid hv
  have HL := Lib.hid hl
  have HQ : Hid (mayB 16 s c vs = (decide (1 ≤ c) && decide (c ≤ 123) && decide (0 ≤ s) && decide (s ≤ 65536 - c) && decide ((vs.length : Int) = c) && allB vs 65535)) := Lib.hid (mayQ (by decide) (fun _ _ => by rw [if_neg (by decide)]) (.inl (by decide)))
  obtain ⟨ao, cap, rfl, _⟩ := hv
  have X0 : Hid (Below w.heap.size w (w.alloc (.cells #[.int .i64 16, .int .i64 s, .int .i64 c, .slice ao vs.length cap] 38))) := Lib.hid (below_new w _)
  clear hl
  rcases (show ¬ 1 ≤ c ∨ (1 ≤ c ∧ ¬ c ≤ 123) ∨ (1 ≤ c ∧ c ≤ 123 ∧ ¬ 0 ≤ s) ∨ (1 ≤ c ∧ c ≤ 123 ∧ 0 ≤ s ∧ ¬ s ≤ 65536 - c) ∨ (1 ≤ c ∧ c ≤ 123 ∧ 0 ≤ s ∧ s ≤ 65536 - c ∧ ¬ (vs.length : Int) = c) ∨ (1 ≤ c ∧ c ≤ 123 ∧ 0 ≤ s ∧ s ≤ 65536 - c ∧ (vs.length : Int) = c) by omega) with h1 | ⟨h1, h2⟩ | ⟨h1, h2, h3⟩ | ⟨h1, h2, h3, h4⟩ | ⟨h1, h2, h3, h4, h5⟩ | ⟨h1, h2, h3, h4, h5⟩
  · have HN : Hid (mayB 16 s c vs = false) := Lib.hid (by rw [HQ.out, decide_eq_false h1]; rfl)
    go_enter Tryd.func13, Tryd.ntmps13
    go_wp2_with fail
    go_quiet (fail)
    generalize hwq : (w.alloc (.cells #[.int .i64 16, .int .i64 s, .int .i64 c, .slice ao vs.length cap] 38)).drewN nq = wq
    have XQ : Hid (Below w.heap.size w wq) := Lib.hid (by rw [← hwq]; exact below_drewN' (below_new w _) nq)
    have BQ : Hid (BoxQ wq w.heap.size 16 s c (.slice ao vs.length cap)) := Lib.hid (by rw [← hwq]; exact heap_alloc_new w _)
    clear hwq
    obtain ⟨k0, k1, k2, k3⟩ := cells4 BQ.out
    go_wp2
    go_ret
    rw [HN.out]
    exact ⟨rfl, XQ.out⟩
  · have HN : Hid (mayB 16 s c vs = false) := Lib.hid (by rw [HQ.out, decide_eq_true h1, decide_eq_false h2]; rfl)
    go_enter Tryd.func13, Tryd.ntmps13
    go_wp2_with fail
    go_quiet (fail)
    generalize hwq : (w.alloc (.cells #[.int .i64 16, .int .i64 s, .int .i64 c, .slice ao vs.length cap] 38)).drewN nq = wq
    have XQ : Hid (Below w.heap.size w wq) := Lib.hid (by rw [← hwq]; exact below_drewN' (below_new w _) nq)
    have BQ : Hid (BoxQ wq w.heap.size 16 s c (.slice ao vs.length cap)) := Lib.hid (by rw [← hwq]; exact heap_alloc_new w _)
    clear hwq
    obtain ⟨k0, k1, k2, k3⟩ := cells4 BQ.out
    go_wp2
    go_ret
    rw [HN.out]
    exact ⟨rfl, XQ.out⟩
  · have HN : Hid (mayB 16 s c vs = false) := Lib.hid (by rw [HQ.out, decide_eq_true h1, decide_eq_true h2, decide_eq_false h3]; rfl)
    go_enter Tryd.func13, Tryd.ntmps13
    go_wp2_with fail
    go_quiet (fail)
    generalize hwq : (w.alloc (.cells #[.int .i64 16, .int .i64 s, .int .i64 c, .slice ao vs.length cap] 38)).drewN nq = wq
    have XQ : Hid (Below w.heap.size w wq) := Lib.hid (by rw [← hwq]; exact below_drewN' (below_new w _) nq)
    have BQ : Hid (BoxQ wq w.heap.size 16 s c (.slice ao vs.length cap)) := Lib.hid (by rw [← hwq]; exact heap_alloc_new w _)
    clear hwq
    obtain ⟨k0, k1, k2, k3⟩ := cells4 BQ.out
    go_wp2
    go_ret
    rw [HN.out]
    exact ⟨rfl, XQ.out⟩
  · have HN : Hid (mayB 16 s c vs = false) := Lib.hid (by rw [HQ.out, decide_eq_true h1, decide_eq_true h2, decide_eq_true h3, decide_eq_false h4]; rfl)
    go_enter Tryd.func13, Tryd.ntmps13
    go_wp2_with fail
    go_quiet (fail)
    generalize hwq : (w.alloc (.cells #[.int .i64 16, .int .i64 s, .int .i64 c, .slice ao vs.length cap] 38)).drewN nq = wq
    have XQ : Hid (Below w.heap.size w wq) := Lib.hid (by rw [← hwq]; exact below_drewN' (below_new w _) nq)
    have BQ : Hid (BoxQ wq w.heap.size 16 s c (.slice ao vs.length cap)) := Lib.hid (by rw [← hwq]; exact heap_alloc_new w _)
    clear hwq
    obtain ⟨k0, k1, k2, k3⟩ := cells4 BQ.out
    go_wp2
    go_ret
    rw [HN.out]
    exact ⟨rfl, XQ.out⟩
  · have HN : Hid (mayB 16 s c vs = false) := Lib.hid (by rw [HQ.out, decide_eq_true h1, decide_eq_true h2, decide_eq_true h3, decide_eq_true h4, decide_eq_false h5]; rfl)
    have h6 : ((vs.length : Int) == c) = false := beq_eq_false_iff_ne.2 h5
    clear h5
    go_enter Tryd.func13, Tryd.ntmps13
    go_wp2_with fail
    go_quiet (fail)
    generalize hwq : (w.alloc (.cells #[.int .i64 16, .int .i64 s, .int .i64 c, .slice ao vs.length cap] 38)).drewN nq = wq
    have XQ : Hid (Below w.heap.size w wq) := Lib.hid (by rw [← hwq]; exact below_drewN' (below_new w _) nq)
    have BQ : Hid (BoxQ wq w.heap.size 16 s c (.slice ao vs.length cap)) := Lib.hid (by rw [← hwq]; exact heap_alloc_new w _)
    clear hwq
    obtain ⟨k0, k1, k2, k3⟩ := cells4 BQ.out
    go_wp2
    go_ret
    rw [HN.out]
    exact ⟨rfl, XQ.out⟩
  · have HN : Hid (mayB 16 s c vs = allB vs 65535) := Lib.hid (by rw [HQ.out, decide_eq_true h1, decide_eq_true h2, decide_eq_true h3, decide_eq_true h4, decide_eq_true h5]; rfl)
    have h6 : ((vs.length : Int) == c) = true := beq_iff_eq.2 h5
    clear h5
    go_enter Tryd.func13, Tryd.ntmps13
    go_wp2_with fail
    go_quiet (fail)
    generalize hwq : (w.alloc (.cells #[.int .i64 16, .int .i64 s, .int .i64 c, .slice ao vs.length cap] 38)).drewN nq = wq
    have XQ : Hid (Below w.heap.size w wq) := Lib.hid (by rw [← hwq]; exact below_drewN' (below_new w _) nq)
    have BQ : Hid (BoxQ wq w.heap.size 16 s c (.slice ao vs.length cap)) := Lib.hid (by rw [← hwq]; exact heap_alloc_new w _)
    clear hwq
    obtain ⟨k0, k1, k2, k3⟩ := cells4 BQ.out
    go_wp2_with fail
    refine (all_any _ vs 65535 _ (HV.out.on XQ.out) (by have := HL.out; omega)).mono ?_
    rintro e w2 ⟨rfl, rfl⟩
    go_wp2
    go_ret
    rw [HN.out]
    exact ⟨rfl, XQ.out⟩

set_option maxRecDepth 100000 in
set_option maxHeartbeats 4000000 in
theorem rmay_none (f s c : Int) (v : Value) (vs : List Int) (w : World) (hf : isFn f = false) : Calls Tryd.prog 13 #[.agg #[.int .i64 f, .int .i64 s, .int .i64 c, v]] w fun e w' => e = .returned (.bool (mayB f s c vs)) ∧ Below w.heap.size w w' := by
  have hn : ¬ (f = 1 ∨ f = 2 ∨ f = 3 ∨ f = 4 ∨ f = 5 ∨ f = 6 ∨ f = 15 ∨ f = 16) := fun h => by rw [isFn_iff.2 h] at hf; cases hf
  have hz : fMost f = 0 := by
    unfold isFn at hf
    have := of_decide_eq_false hf
    have h2 : 0 ≤ fMost f := by unfold fMost; repeat' split; all_goals omega
    omega
  have HN : Hid (mayB f s c vs = false) := Lib.hid (by
    rw [may_split, hz]
    by_cases h1 : 1 ≤ c
    · rw [decide_eq_true h1, decide_eq_false (by omega)]; rfl
    · rw [decide_eq_false h1]; rfl)
  have n1 : (f == 1) = false := beq_eq_false_iff_ne.2 (by omega)
  have n2 : (f == 2) = false := beq_eq_false_iff_ne.2 (by omega)
  have n3 : (f == 3) = false := beq_eq_false_iff_ne.2 (by omega)
  have n4 : (f == 4) = false := beq_eq_false_iff_ne.2 (by omega)
  have n5 : (f == 5) = false := beq_eq_false_iff_ne.2 (by omega)
  have n6 : (f == 6) = false := beq_eq_false_iff_ne.2 (by omega)
  have n15 : (f == 15) = false := beq_eq_false_iff_ne.2 (by omega)
  have n16 : (f == 16) = false := beq_eq_false_iff_ne.2 (by omega)
  clear hn hz hf
  go_enter Tryd.func13, Tryd.ntmps13
  go_wp2
  go_ret
  rw [HN.out]
  exact ⟨rfl, below_new _ _⟩
theorem rmay_any (f s c : Int) (v : Value) (vs : List Int) (w : World) (hv : IntsAt w v vs) (hl : vs.length ≤ 100000) : Calls Tryd.prog 13 #[.agg #[.int .i64 f, .int .i64 s, .int .i64 c, v]] w fun e w' => e = .returned (.bool (mayB f s c vs)) ∧ Below w.heap.size w w' := by
  rcases Bool.eq_false_or_eq_true (isFn f) with h | h
  · rcases isFn_iff.1 h with rfl | rfl | rfl | rfl | rfl | rfl | rfl | rfl
    · exact rmay_1 s c v vs w hv hl
    · exact rmay_2 s c v vs w hv hl
    · exact rmay_3 s c v vs w hv hl
    · exact rmay_4 s c v vs w hv hl
    · exact rmay_5 s c v vs w hv hl
    · exact rmay_6 s c v vs w hv hl
    · exact rmay_15 s c v vs w hv hl
    · exact rmay_16 s c v vs w hv hl
  · exact rmay_none f s c v vs w h
end Go.Proofs.YtngfaailbkadfaaDoor
