/- yardref7's known, all, May: what each answers, for every argument; memory that was there stands. -/
import Derived.Test.YtngfaailbkadfaaDoorSpec
import Derived.Test.YtngfaailbkadfaaDoorMay
namespace Go.Proofs.YtngfaailbkadfaaDoor
open Go.RowKit Go.Extern.Stop Go.Stop Go.Extern

theorem isFn_iff {f : Int} : isFn f = true ↔ f = 1 ∨ f = 2 ∨ f = 3 ∨ f = 4 ∨ f = 5 ∨ f = 6 ∨ f = 15 ∨ f = 16 := by
  unfold isFn
  rw [decide_eq_true_eq]
  constructor
  · intro h; exact fMost_cases (by omega)
  · rintro (rfl | rfl | rfl | rfl | rfl | rfl | rfl | rfl) <;> decide
theorem known_any (f : Int) (w : World) : Calls Tryd.prog 29 #[.int .i64 f] w fun e w' => e = .returned (.bool (isFn f)) ∧ w = w' := by
  have hy : ∀ (q : Bool), (q = true ↔ f = 1 ∨ f = 2 ∨ f = 3 ∨ f = 4 ∨ f = 5 ∨ f = 6 ∨ f = 15 ∨ f = 16) → q = isFn f := fun q hq => by
    rw [Bool.eq_iff_iff, hq, isFn_iff]
  have HY := Lib.hid hy
  clear hy
  by_cases h1 : 1 ≤ f
  · by_cases h2 : f ≤ 6
    · have HQ := Lib.hid (HY.out true (by simp; omega))
      go_enter Tryd.func29, Tryd.ntmps29
      go_wp2
      go_ret
      rw [← HQ.out]
      exact ⟨rfl, rfl⟩
    · by_cases h3 : f = 15
      · subst h3
        have HQ := Lib.hid (HY.out true (by simp))
        go_enter Tryd.func29, Tryd.ntmps29
        go_wp2
        go_ret
        rw [← HQ.out]
        exact ⟨rfl, rfl⟩
      · by_cases h4 : f = 16
        · subst h4
          have HQ := Lib.hid (HY.out true (by simp))
          go_enter Tryd.func29, Tryd.ntmps29
          go_wp2
          go_ret
          rw [← HQ.out]
          exact ⟨rfl, rfl⟩
        · have HQ := Lib.hid (HY.out false (by simp; omega))
          have n3 : (f == 15) = false := beq_eq_false_iff_ne.2 h3
          have n4 : (f == 16) = false := beq_eq_false_iff_ne.2 h4
          clear h3 h4
          go_enter Tryd.func29, Tryd.ntmps29
          go_wp2
          go_ret
          rw [← HQ.out]
          exact ⟨rfl, rfl⟩
  · have HQ := Lib.hid (HY.out false (by simp; omega))
    have n3 : (f == 15) = false := beq_eq_false_iff_ne.2 (by omega)
    have n4 : (f == 16) = false := beq_eq_false_iff_ne.2 (by omega)
    go_enter Tryd.func29, Tryd.ntmps29
    go_wp2
    go_ret
    rw [← HQ.out]
    exact ⟨rfl, rfl⟩

/-- Are all numbers from 0 to a greatest one? -/
def allB (l : List Int) (t : Int) : Bool := l.all (fun v => within v 0 t)
theorem allB_take (l : List Int) (t : Int) (i : Nat) (h : i < l.length) : allB (l.take (i + 1)) t = (allB (l.take i) t && within l[i] 0 t) := by
  unfold allB
  rw [← List.take_append_getElem h, List.all_append]
  simp
theorem allB_false (l : List Int) (t : Int) (i : Nat) (h : i < l.length) (hw : within l[i] 0 t = false) : allB l t = false := by
  rw [← Bool.not_eq_true]
  intro ha
  unfold allB at ha
  rw [List.all_eq_true] at ha
  have := ha l[i] (List.getElem_mem h)
  rw [hw] at this
  cases this
set_option maxRecDepth 100000 in
set_option maxHeartbeats 2000000 in
theorem all_any (v : Value) (l : List Int) (t : Int) (w : World) (hv : IntsAt w v l) (hl : l.length ≤ 1000000) : Calls Tryd.prog 38 #[v, .int .i64 t] w fun e w' => e = .returned (.bool (allB l t)) ∧ w = w' := by
  have HV := Lib.hid hv
  have HL := Lib.hid hl
  obtain ⟨ao, cap, rfl, hc⟩ := hv
  have HC := Lib.hid hc
  clear hl hc
  go_enter Tryd.func38, Tryd.ntmps38
  go_wp2
  go_loopg [5] l.length (fun k s5 wr => w = wr ∧ ∃ i : Nat, i ≤ l.length ∧ k = l.length - i ∧ s5 = .int .i64 i ∧ Hid (allB (l.take i) t = true))
  case atStart => exact ⟨rfl, 0, Nat.zero_le _, rfl, rfl, Lib.hid rfl⟩
  case round =>
    obtain ⟨rfl, i, hi, rfl, rfl, HI⟩ := hrel
    by_cases hlt : i < l.length
    · obtain ⟨b, off, rfl, hcell⟩ := HC.out i hlt
      have hi0 : (0 : Int) ≤ (i : Int) := by omega
      have hil : (i : Int) < (l.length : Int) := by omega
      have HT := Lib.hid (allB_take l t i hlt)
      have HF := Lib.hid (allB_false l t i hlt)
      generalize l[i] = y at *
      by_cases h1 : y < 0
      · have HN : Hid (allB l t = false) := Lib.hid (HF.out (by simp [within]; omega))
        go_wp2
        go_ret
        rw [HN.out]
        exact ⟨rfl, rfl⟩
      · by_cases h2 : t < y
        · have HN : Hid (allB l t = false) := Lib.hid (HF.out (by simp [within]; omega))
          go_wp2
          go_ret
          rw [HN.out]
          exact ⟨rfl, rfl⟩
        · have HN : Hid (allB (l.take (i + 1)) t = true) := Lib.hid (by rw [HT.out, HI.out]; simp [within]; omega)
          go_wp2
          go_roundg (l.length - (i + 1))
          case measure => omega
          case rel => exact ⟨rfl, i + 1, by omega, rfl, next_int i (by have := HL.out; omega), HN⟩
    · have HN : Hid (allB l t = true) := Lib.hid (by have := HI.out; rwa [List.take_of_length_le (by omega)] at this)
      go_wp2
      go_ret
      rw [HN.out]
      exact ⟨rfl, rfl⟩
theorem allB_nil (t : Int) : allB [] t = true := rfl

/-- A request's box, the document's. -/
def BoxQ (w : World) (k : Nat) (f s c : Int) (v : Value) : Prop := w.heap[k]? = some (.cells #[.int .i64 f, .int .i64 s, .int .i64 c, v] 38 (0, 0))
theorem BoxQ.on {w w' : World} {k : Nat} {f s c : Int} {v : Value} (h : BoxQ w k f s c v) (hb : Below w.heap.size w w') : BoxQ w' k f s c v := (hb.block k (lt_heap h)).trans h
/-- What a function asks. -/
theorem may_split (f s c : Int) (vs : List Int) : mayB f s c vs = (decide (1 ≤ c) && decide (c ≤ fMost f) && decide (0 ≤ s) && decide (s ≤ 65536 - c) && decide ((vs.length : Int) = if fReads f then 0 else c) && allB vs (fTop f)) := by
  unfold mayB within areV allB
  cases decide (1 ≤ c) <;> cases decide (c ≤ fMost f) <;> cases decide (0 ≤ s) <;> cases decide (s ≤ 65536 - c) <;> rfl
end Go.Proofs.YtngfaailbkadfaaDoor
