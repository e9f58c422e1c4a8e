/- yardref7.right: may a reply be; yardlaw7.reply. -/
import Derived.Test.YtngfaailbkadfaaDoorQ13
import Derived.Test.YtngfaailbkadfaaDoorAns
namespace Go.Proofs.YtngfaailbkadfaaDoor
open Go.RowKit Go.Extern.Stop Go.Stop Go.Extern

theorem mayR_neg {f s c : Int} {us : List Int} {code : Int} {vs : List Int} (h : code < 0 ∨ 255 < code) : mayR ⟨f, s, c, us⟩ ⟨code, vs⟩ = false := by
  have : within code 0 255 = false := by
    unfold within
    rcases h with h | h
    · rw [decide_eq_false (by omega : ¬ (0 : Int) ≤ code)]; rfl
    · rw [decide_eq_false (by omega : ¬ code ≤ 255), Bool.and_false]
  unfold mayR
  dsimp only
  rw [this]; rfl
theorem mayR_in {f s c : Int} {us : List Int} {code : Int} {vs : List Int} (h0 : 0 ≤ code) (h1 : code ≤ 255) : mayR ⟨f, s, c, us⟩ ⟨code, vs⟩ = (decide ((vs.length : Int) = if code = 0 ∧ fReads f = true then c else 0) && allB vs (fTop f)) := by
  have : within code 0 255 = true := by unfold within; rw [decide_eq_true h0, decide_eq_true h1]; rfl
  unfold mayR
  dsimp only
  rw [this, Bool.true_and]
  rfl
theorem mayR_none {f s c : Int} {us : List Int} {code : Int} {vs : List Int} (h0 : 0 ≤ code) (h1 : code ≤ 255) (h : ¬ (code = 0 ∧ fReads f = true)) : mayR ⟨f, s, c, us⟩ ⟨code, vs⟩ = ((vs.length : Int) == 0) := by
  rw [mayR_in h0 h1, if_neg h]
  by_cases h2 : vs.length = 0
  · have : vs = [] := List.length_eq_zero_iff.1 h2
    subst this
    rfl
  · rw [decide_eq_false (by omega : ¬ (vs.length : Int) = 0), Bool.false_and]
    exact (beq_eq_false_iff_ne.2 (by omega)).symm
/-- The two boxes at entry. -/
def RB (w W : World) (f s c : Int) (v : Value) (code : Int) (pv : Value) : Prop :=
  BoxQ W w.heap.size f s c v ∧ W.heap[w.heap.size + 1]? = some (.cells #[.int .i64 code, pv] 55 (0, 0)) ∧ Below w.heap.size w W
theorem rb_new (w : World) (f s c : Int) (v : Value) (code : Int) (pv : Value) : RB w ((w.alloc (.cells #[.int .i64 f, .int .i64 s, .int .i64 c, v] 38)).alloc (.cells #[.int .i64 code, pv] 55)) f s c v code pv := by
  have h : (w.alloc (.cells #[.int .i64 f, .int .i64 s, .int .i64 c, v] 38)).heap.size = w.heap.size + 1 := by simp
  refine ⟨?_, ?_, two_belowW _ _ _⟩
  · have h1 : BoxQ (w.alloc (.cells #[.int .i64 f, .int .i64 s, .int .i64 c, v] 38)) w.heap.size f s c v := heap_alloc_new w _
    exact h1.on (below_new _ _)
  · rw [← h]; exact heap_alloc_new _ _
theorem RB.on {w W W' : World} {f s c : Int} {v : Value} {code : Int} {pv : Value} (h : RB w W f s c v code pv) (hb : Below W.heap.size W W') : RB w W' f s c v code pv := ⟨h.1.on hb, (hb.block _ (lt_heap h.2.1)).trans h.2.1, h.2.2.trans (hb.mono h.2.2.size)⟩
theorem RB.pc {w W : World} {f s c : Int} {v : Value} {code : Int} {pv : Value} (h : RB w W f s c v code pv) : W.cell? ⟨w.heap.size + 1, 0, none⟩ = some (.int .i64 code) ∧ W.cell? ⟨w.heap.size + 1, 1, none⟩ = some pv :=
  ⟨by rw [cell_of_row _ _ _ _ _ _ h.2.1]; rfl, by rw [cell_of_row _ _ _ _ _ _ h.2.1]; rfl⟩

set_option maxRecDepth 100000 in
set_option maxHeartbeats 2000000 in
theorem right_neg1 (f s c : Int) (v : Value) (code : Int) (pv : Value) (vs : List Int) (w : World) (hp : IntsAt w pv vs) (h : code < 0) : Calls Tryd.prog 44 #[.agg #[.int .i64 f, .int .i64 s, .int .i64 c, v], .agg #[.int .i64 code, pv]] w fun e w' => e = .returned (.bool (false)) ∧ Below w.heap.size w w' := by
  obtain ⟨a0, n0, rfl, _⟩ := id hp
  have HB0 := rb_new w f s c v code (.slice a0 vs.length n0)
  obtain ⟨c0, c1, c2, c3⟩ := HB0.1.cells
  obtain ⟨d0, d1⟩ := HB0.pc
  have HX := Lib.hid HB0.2.2
  clear HB0
  clear hp
  go_enter Tryd.func44, Tryd.ntmps44
  go_wp2
  go_ret
  exact ⟨rfl, HX.out⟩

set_option maxRecDepth 100000 in
set_option maxHeartbeats 2000000 in
theorem right_neg2 (f s c : Int) (v : Value) (code : Int) (pv : Value) (vs : List Int) (w : World) (hp : IntsAt w pv vs) (h0 : 0 ≤ code) (h : 255 < code) : Calls Tryd.prog 44 #[.agg #[.int .i64 f, .int .i64 s, .int .i64 c, v], .agg #[.int .i64 code, pv]] w fun e w' => e = .returned (.bool (false)) ∧ Below w.heap.size w w' := by
  obtain ⟨a0, n0, rfl, _⟩ := id hp
  have HB0 := rb_new w f s c v code (.slice a0 vs.length n0)
  obtain ⟨c0, c1, c2, c3⟩ := HB0.1.cells
  obtain ⟨d0, d1⟩ := HB0.pc
  have HX := Lib.hid HB0.2.2
  clear HB0
  clear hp
  go_enter Tryd.func44, Tryd.ntmps44
  go_wp2
  go_ret
  exact ⟨rfl, HX.out⟩

set_option maxRecDepth 100000 in
set_option maxHeartbeats 2000000 in
theorem right_many (f s c : Int) (v : Value) (code : Int) (pv : Value) (vs : List Int) (w : World) (hp : IntsAt w pv vs) (h0 : 0 < code) (h : code ≤ 255) (h2 : 0 < vs.length) : Calls Tryd.prog 44 #[.agg #[.int .i64 f, .int .i64 s, .int .i64 c, v], .agg #[.int .i64 code, pv]] w fun e w' => e = .returned (.bool (false)) ∧ Below w.heap.size w w' := by
  obtain ⟨a0, n0, rfl, _⟩ := id hp
  have HB0 := rb_new w f s c v code (.slice a0 vs.length n0)
  obtain ⟨c0, c1, c2, c3⟩ := HB0.1.cells
  obtain ⟨d0, d1⟩ := HB0.pc
  have HX := Lib.hid HB0.2.2
  clear HB0
  have h3 : (0 : Int) < (vs.length : Int) := by omega
  clear hp
  go_enter Tryd.func44, Tryd.ntmps44
  go_wp2
  go_ret
  exact ⟨rfl, HX.out⟩

set_option maxRecDepth 100000 in
set_option maxHeartbeats 2000000 in
theorem right_code (f s c : Int) (v : Value) (code : Int) (pv : Value) (vs : List Int) (w : World) (hp : IntsAt w pv vs) (h0 : 0 < code) (h : code ≤ 255) (h2 : vs.length = 0) : Calls Tryd.prog 44 #[.agg #[.int .i64 f, .int .i64 s, .int .i64 c, v], .agg #[.int .i64 code, pv]] w fun e w' => e = .returned (.bool (true)) ∧ Below w.heap.size w w' := by
  obtain ⟨a0, n0, rfl, _⟩ := id hp
  have HB0 := rb_new w f s c v code (.slice a0 vs.length n0)
  obtain ⟨c0, c1, c2, c3⟩ := HB0.1.cells
  obtain ⟨d0, d1⟩ := HB0.pc
  have HX := Lib.hid HB0.2.2
  clear HB0
  have h3 : ¬ (0 : Int) < (vs.length : Int) := by omega
  have h4 : decide ((0 : Int) < (vs.length : Int)) = false := decide_eq_false h3
  clear h2
  clear hp
  go_enter Tryd.func44, Tryd.ntmps44
  go_wp2
  go_ret
  exact ⟨rfl, HX.out⟩

set_option maxRecDepth 100000 in
set_option maxHeartbeats 2000000 in
theorem right_1 (s c : Int) (v : Value) (pv : Value) (vs : List Int) (w : World) (hp : IntsAt w pv vs) (hl : vs.length ≤ 100000) (h : (vs.length : Int) = c) : Calls Tryd.prog 44 #[.agg #[.int .i64 1, .int .i64 s, .int .i64 c, v], .agg #[.int .i64 0, pv]] w fun e w' => e = .returned (.bool (allB vs 1)) ∧ Below w.heap.size w w' := by
  have HP := Lib.hid hp
  obtain ⟨a0, n0, rfl, _⟩ := id hp
  have HB0 := rb_new w 1 s c v 0 (.slice a0 vs.length n0)
  obtain ⟨c0, c1, c2, c3⟩ := HB0.1.cells
  obtain ⟨d0, d1⟩ := HB0.pc
  have HX := Lib.hid HB0.2.2
  clear HB0
  have HL := Lib.hid hl
  have hq : ((vs.length : Int) == c) = true := by rw [h]; simp
  clear hp hl h
  go_enter Tryd.func44, Tryd.ntmps44
  go_wp2_with fail
  refine (all_any _ vs 1 _ (HP.out.on HX.out) (by have := HL.out; omega)).mono ?_
  rintro e w1 ⟨rfl, rfl⟩
  obtain ⟨ab, hab⟩ : ∃ ab, allB vs 1 = ab := ⟨_, rfl⟩
  have HAB := Lib.hid hab
  rw [hab]
  clear hab
  cases ab
  · go_wp2
    go_ret
    exact ⟨by rw [HAB.out]; rfl, HX.out⟩
  · go_wp2
    go_ret
    exact ⟨by rw [HAB.out]; rfl, HX.out⟩

set_option maxRecDepth 100000 in
set_option maxHeartbeats 2000000 in
theorem right_1n (s c : Int) (v : Value) (pv : Value) (vs : List Int) (w : World) (hp : IntsAt w pv vs) (h : (vs.length : Int) ≠ c) : Calls Tryd.prog 44 #[.agg #[.int .i64 1, .int .i64 s, .int .i64 c, v], .agg #[.int .i64 0, pv]] w fun e w' => e = .returned (.bool (false)) ∧ Below w.heap.size w w' := by
  obtain ⟨a0, n0, rfl, _⟩ := id hp
  have HB0 := rb_new w 1 s c v 0 (.slice a0 vs.length n0)
  obtain ⟨c0, c1, c2, c3⟩ := HB0.1.cells
  obtain ⟨d0, d1⟩ := HB0.pc
  have HX := Lib.hid HB0.2.2
  clear HB0
  have hq : ((vs.length : Int) == c) = false := beq_eq_false_iff_ne.2 h
  clear hp h
  go_enter Tryd.func44, Tryd.ntmps44
  go_wp2
  go_ret
  exact ⟨rfl, HX.out⟩

set_option maxRecDepth 100000 in
set_option maxHeartbeats 2000000 in
theorem right_2 (s c : Int) (v : Value) (pv : Value) (vs : List Int) (w : World) (hp : IntsAt w pv vs) (hl : vs.length ≤ 100000) (h : (vs.length : Int) = c) : Calls Tryd.prog 44 #[.agg #[.int .i64 2, .int .i64 s, .int .i64 c, v], .agg #[.int .i64 0, pv]] w fun e w' => e = .returned (.bool (allB vs 1)) ∧ Below w.heap.size w w' := by
  have HP := Lib.hid hp
  obtain ⟨a0, n0, rfl, _⟩ := id hp
  have HB0 := rb_new w 2 s c v 0 (.slice a0 vs.length n0)
  obtain ⟨c0, c1, c2, c3⟩ := HB0.1.cells
  obtain ⟨d0, d1⟩ := HB0.pc
  have HX := Lib.hid HB0.2.2
  clear HB0
  have HL := Lib.hid hl
  have hq : ((vs.length : Int) == c) = true := by rw [h]; simp
  clear hp hl h
  go_enter Tryd.func44, Tryd.ntmps44
  go_wp2_with fail
  refine (all_any _ vs 1 _ (HP.out.on HX.out) (by have := HL.out; omega)).mono ?_
  rintro e w1 ⟨rfl, rfl⟩
  obtain ⟨ab, hab⟩ : ∃ ab, allB vs 1 = ab := ⟨_, rfl⟩
  have HAB := Lib.hid hab
  rw [hab]
  clear hab
  cases ab
  · go_wp2
    go_ret
    exact ⟨by rw [HAB.out]; rfl, HX.out⟩
  · go_wp2
    go_ret
    exact ⟨by rw [HAB.out]; rfl, HX.out⟩

set_option maxRecDepth 100000 in
set_option maxHeartbeats 2000000 in
theorem right_2n (s c : Int) (v : Value) (pv : Value) (vs : List Int) (w : World) (hp : IntsAt w pv vs) (h : (vs.length : Int) ≠ c) : Calls Tryd.prog 44 #[.agg #[.int .i64 2, .int .i64 s, .int .i64 c, v], .agg #[.int .i64 0, pv]] w fun e w' => e = .returned (.bool (false)) ∧ Below w.heap.size w w' := by
  obtain ⟨a0, n0, rfl, _⟩ := id hp
  have HB0 := rb_new w 2 s c v 0 (.slice a0 vs.length n0)
  obtain ⟨c0, c1, c2, c3⟩ := HB0.1.cells
  obtain ⟨d0, d1⟩ := HB0.pc
  have HX := Lib.hid HB0.2.2
  clear HB0
  have hq : ((vs.length : Int) == c) = false := beq_eq_false_iff_ne.2 h
  clear hp h
  go_enter Tryd.func44, Tryd.ntmps44
  go_wp2
  go_ret
  exact ⟨rfl, HX.out⟩

set_option maxRecDepth 100000 in
set_option maxHeartbeats 2000000 in
theorem right_3 (s c : Int) (v : Value) (pv : Value) (vs : List Int) (w : World) (hp : IntsAt w pv vs) (hl : vs.length ≤ 100000) (h : (vs.length : Int) = c) : Calls Tryd.prog 44 #[.agg #[.int .i64 3, .int .i64 s, .int .i64 c, v], .agg #[.int .i64 0, pv]] w fun e w' => e = .returned (.bool (allB vs 65535)) ∧ Below w.heap.size w w' := by
  have HP := Lib.hid hp
  obtain ⟨a0, n0, rfl, _⟩ := id hp
  have HB0 := rb_new w 3 s c v 0 (.slice a0 vs.length n0)
  obtain ⟨c0, c1, c2, c3⟩ := HB0.1.cells
  obtain ⟨d0, d1⟩ := HB0.pc
  have HX := Lib.hid HB0.2.2
  clear HB0
  have HL := Lib.hid hl
  have hq : ((vs.length : Int) == c) = true := by rw [h]; simp
  clear hp hl h
  go_enter Tryd.func44, Tryd.ntmps44
  go_wp2_with fail
  refine (all_any _ vs 65535 _ (HP.out.on HX.out) (by have := HL.out; omega)).mono ?_
  rintro e w1 ⟨rfl, rfl⟩
  obtain ⟨ab, hab⟩ : ∃ ab, allB vs 65535 = ab := ⟨_, rfl⟩
  have HAB := Lib.hid hab
  rw [hab]
  clear hab
  cases ab
  · go_wp2
    go_ret
    exact ⟨by rw [HAB.out]; rfl, HX.out⟩
  · go_wp2
    go_ret
    exact ⟨by rw [HAB.out]; rfl, HX.out⟩

set_option maxRecDepth 100000 in
set_option maxHeartbeats 2000000 in
theorem right_3n (s c : Int) (v : Value) (pv : Value) (vs : List Int) (w : World) (hp : IntsAt w pv vs) (h : (vs.length : Int) ≠ c) : Calls Tryd.prog 44 #[.agg #[.int .i64 3, .int .i64 s, .int .i64 c, v], .agg #[.int .i64 0, pv]] w fun e w' => e = .returned (.bool (false)) ∧ Below w.heap.size w w' := by
  obtain ⟨a0, n0, rfl, _⟩ := id hp
  have HB0 := rb_new w 3 s c v 0 (.slice a0 vs.length n0)
  obtain ⟨c0, c1, c2, c3⟩ := HB0.1.cells
  obtain ⟨d0, d1⟩ := HB0.pc
  have HX := Lib.hid HB0.2.2
  clear HB0
  have hq : ((vs.length : Int) == c) = false := beq_eq_false_iff_ne.2 h
  clear hp h
  go_enter Tryd.func44, Tryd.ntmps44
  go_wp2
  go_ret
  exact ⟨rfl, HX.out⟩

set_option maxRecDepth 100000 in
set_option maxHeartbeats 2000000 in
theorem right_4 (s c : Int) (v : Value) (pv : Value) (vs : List Int) (w : World) (hp : IntsAt w pv vs) (hl : vs.length ≤ 100000) (h : (vs.length : Int) = c) : Calls Tryd.prog 44 #[.agg #[.int .i64 4, .int .i64 s, .int .i64 c, v], .agg #[.int .i64 0, pv]] w fun e w' => e = .returned (.bool (allB vs 65535)) ∧ Below w.heap.size w w' := by
  have HP := Lib.hid hp
  obtain ⟨a0, n0, rfl, _⟩ := id hp
  have HB0 := rb_new w 4 s c v 0 (.slice a0 vs.length n0)
  obtain ⟨c0, c1, c2, c3⟩ := HB0.1.cells
  obtain ⟨d0, d1⟩ := HB0.pc
  have HX := Lib.hid HB0.2.2
  clear HB0
  have HL := Lib.hid hl
  have hq : ((vs.length : Int) == c) = true := by rw [h]; simp
  clear hp hl h
  go_enter Tryd.func44, Tryd.ntmps44
  go_wp2_with fail
  refine (all_any _ vs 65535 _ (HP.out.on HX.out) (by have := HL.out; omega)).mono ?_
  rintro e w1 ⟨rfl, rfl⟩
  obtain ⟨ab, hab⟩ : ∃ ab, allB vs 65535 = ab := ⟨_, rfl⟩
  have HAB := Lib.hid hab
  rw [hab]
  clear hab
  cases ab
  · go_wp2
    go_ret
    exact ⟨by rw [HAB.out]; rfl, HX.out⟩
  · go_wp2
    go_ret
    exact ⟨by rw [HAB.out]; rfl, HX.out⟩

set_option maxRecDepth 100000 in
set_option maxHeartbeats 2000000 in
theorem right_4n (s c : Int) (v : Value) (pv : Value) (vs : List Int) (w : World) (hp : IntsAt w pv vs) (h : (vs.length : Int) ≠ c) : Calls Tryd.prog 44 #[.agg #[.int .i64 4, .int .i64 s, .int .i64 c, v], .agg #[.int .i64 0, pv]] w fun e w' => e = .returned (.bool (false)) ∧ Below w.heap.size w w' := by
  obtain ⟨a0, n0, rfl, _⟩ := id hp
  have HB0 := rb_new w 4 s c v 0 (.slice a0 vs.length n0)
  obtain ⟨c0, c1, c2, c3⟩ := HB0.1.cells
  obtain ⟨d0, d1⟩ := HB0.pc
  have HX := Lib.hid HB0.2.2
  clear HB0
  have hq : ((vs.length : Int) == c) = false := beq_eq_false_iff_ne.2 h
  clear hp h
  go_enter Tryd.func44, Tryd.ntmps44
  go_wp2
  go_ret
  exact ⟨rfl, HX.out⟩

set_option maxRecDepth 100000 in
set_option maxHeartbeats 2000000 in
theorem right_else (f s c : Int) (v : Value) (pv : Value) (vs : List Int) (w : World) (hp : IntsAt w pv vs) (h1 : f ≠ 1) (h2 : f ≠ 2) (h3 : f ≠ 3) (h4 : f ≠ 4) : Calls Tryd.prog 44 #[.agg #[.int .i64 f, .int .i64 s, .int .i64 c, v], .agg #[.int .i64 0, pv]] w fun e w' => e = .returned (.bool ((vs.length : Int) == 0)) ∧ Below w.heap.size w w' := by
  obtain ⟨a0, n0, rfl, _⟩ := id hp
  have HB0 := rb_new w f s c v 0 (.slice a0 vs.length n0)
  obtain ⟨c0, c1, c2, c3⟩ := HB0.1.cells
  obtain ⟨d0, d1⟩ := HB0.pc
  have HX := Lib.hid HB0.2.2
  clear HB0
  have n1 : (f == 1) = false := beq_eq_false_iff_ne.2 h1
  have n2 : (f == 2) = false := beq_eq_false_iff_ne.2 h2
  have n3 : (f == 3) = false := beq_eq_false_iff_ne.2 h3
  have n4 : (f == 4) = false := beq_eq_false_iff_ne.2 h4
  obtain ⟨z, hz⟩ : ∃ z, ((vs.length : Int) == 0) = z := ⟨_, rfl⟩
  rw [hz]
  clear hp h1 h2 h3 h4
  go_enter Tryd.func44, Tryd.ntmps44
  go_wp2
  go_ret
  refine ⟨?_, HX.out⟩
  rw [← hz]; rfl
/-- right, for every request and every reply. -/
theorem right_any (f s c : Int) (v : Value) (us : List Int) (code : Int) (pv : Value) (vs : List Int) (w : World) (hp : IntsAt w pv vs) (hl : vs.length ≤ 100000) : Calls Tryd.prog 44 #[.agg #[.int .i64 f, .int .i64 s, .int .i64 c, v], .agg #[.int .i64 code, pv]] w fun e w' => e = .returned (.bool (mayR ⟨f, s, c, us⟩ ⟨code, vs⟩)) ∧ Below w.heap.size w w' := by
  rcases (show code < 0 ∨ 0 ≤ code by omega) with h0 | h0
  · rw [mayR_neg (.inl h0)]; exact right_neg1 f s c v code pv vs w hp h0
  · rcases (show 255 < code ∨ code ≤ 255 by omega) with h1 | h1
    · rw [mayR_neg (.inr h1)]; exact right_neg2 f s c v code pv vs w hp h0 h1
    · rcases (show 0 < code ∨ code ≤ 0 by omega) with h2 | h2
      · rw [mayR_none h0 h1 (fun x => by omega)]
        by_cases h3 : vs.length = 0
        · rw [show ((vs.length : Int) == 0) = true by simp [h3]]
          exact right_code f s c v code pv vs w hp h2 h1 h3
        · rw [show ((vs.length : Int) == 0) = false from beq_eq_false_iff_ne.2 (by omega)]
          exact right_many f s c v code pv vs w hp h2 h1 (by omega)
      · obtain rfl : code = 0 := by omega
        by_cases hr : f = 1 ∨ f = 2 ∨ f = 3 ∨ f = 4
        · have hfr : fReads f = true := by unfold fReads; simpa using hr
          rw [mayR_in (by omega) (by omega), if_pos ⟨rfl, hfr⟩]
          by_cases hc : (vs.length : Int) = c
          · rw [decide_eq_true hc, Bool.true_and]
            rcases hr with rfl | rfl | rfl | rfl
            · exact right_1 s c v pv vs w hp hl hc
            · exact right_2 s c v pv vs w hp hl hc
            · exact right_3 s c v pv vs w hp hl hc
            · exact right_4 s c v pv vs w hp hl hc
          · rw [decide_eq_false hc, Bool.false_and]
            rcases hr with rfl | rfl | rfl | rfl
            · exact right_1n s c v pv vs w hp hc
            · exact right_2n s c v pv vs w hp hc
            · exact right_3n s c v pv vs w hp hc
            · exact right_4n s c v pv vs w hp hc
        · rw [mayR_none (by omega) (by omega) (fun x => hr (by have := x.2; unfold fReads at this; simpa using this))]
          exact right_else f s c v pv vs w hp (fun e => hr (.inl e)) (fun e => hr (.inr (.inl e))) (fun e => hr (.inr (.inr (.inl e)))) (fun e => hr (.inr (.inr (.inr e))))

/-- yardlaw7.reply. -/
def BoxS (w : World) (k : Nat) (c : Int) (v : Value) : Prop := w.heap[k]? = some (.cells #[.int .i64 c, v] 55 (0, 0))
theorem BoxS.on {w w' : World} {k : Nat} {c : Int} {v : Value} (h : BoxS w k c v) (hb : Below w.heap.size w w') : BoxS w' k c v := (hb.block k (lt_heap h)).trans h
theorem BoxS.cells {w : World} {k : Nat} {c : Int} {v : Value} (h : BoxS w k c v) : w.cell? ⟨k, 0, none⟩ = some (.int .i64 c) ∧ w.cell? ⟨k, 1, none⟩ = some v ∧ w.frozen? ⟨k, 0, none⟩ = false ∧ w.frozen? ⟨k, 1, none⟩ = false :=
  ⟨by rw [cell_of_row _ _ _ _ _ _ h]; rfl, by rw [cell_of_row _ _ _ _ _ _ h]; rfl, frozen_of_row _ _ _ _ _ h, frozen_of_row _ _ _ _ _ h⟩
set_option maxRecDepth 100000 in
set_option maxHeartbeats 4000000 in
theorem lreply_any (c : Int) (ao : Option Addr) (n cap : Nat) (w : World) : Calls Tryd.prog 20 #[.agg #[.int .i64 c, .slice ao n cap]] w fun e w' => e = .returned (.agg #[.int .i64 c, .slice ao n cap]) ∧ Below w.heap.size w w' := by
  obtain ⟨wx, hwx⟩ : ∃ wx, wx = (w.alloc (.cells #[.int .i64 c, .slice ao n cap] 52)).alloc (.cells #[.int .i64 c, .slice ao n cap] 55) := ⟨_, rfl⟩
  have X0 : Hid (Below w.heap.size w wx) := Lib.hid (by rw [hwx]; exact two_belowW _ _ _)
  have Q0 : BoxS wx (w.heap.size + 1) c (.slice ao n cap) := by
    rw [hwx]
    have h : (w.alloc (.cells #[.int .i64 c, .slice ao n cap] 52)).heap.size = w.heap.size + 1 := by simp
    rw [← h]
    exact heap_alloc_new _ _
  obtain ⟨d0, d1, _, _⟩ := Q0.cells
  clear Q0
  go_enter Tryd.func20, Tryd.ntmps20
  go_wp2
  rw [← hwx]
  refine bodyPost_ret (v := .agg #[.int .i64 c, .slice ao n cap]) ?_ rfl ⟨rfl, X0.out⟩
  simp [results, Tryd.results20, go_sem, d0, d1]
end Go.Proofs.YtngfaailbkadfaaDoor
