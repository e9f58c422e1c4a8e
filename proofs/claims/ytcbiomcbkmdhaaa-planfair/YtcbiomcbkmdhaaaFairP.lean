/- Why each poll comes once: which are met, as plain values. -/
import Derived.Test.YtcbiomcbkmdhaaaDue
namespace Go.Proofs.Ytcbiomcbkmdhaaa
open Go.RowKit Go.Extern.Stop Go.Stop Go.Extern

/-- How many are met. -/
def metN : List Bool → Nat
  | [] => 0
  | b :: l => (if b = true then 1 else 0) + metN l
theorem metN_le : ∀ l : List Bool, metN l ≤ l.length
  | [] => Nat.le_refl _
  | b :: l => by have := metN_le l; cases b <;> simp [metN] <;> omega
theorem metN_set : ∀ (l : List Bool) (i : Nat) (h : i < l.length), l[i] = false → metN (l.set i true) = metN l + 1
  | b :: l, 0, _, hb => by
    simp only [List.getElem_cons_zero] at hb
    subst hb
    simp [metN]; omega
  | b :: l, i + 1, h, hb => by
    have := metN_set l i (by simpa using h) (by simpa using hb)
    simp only [List.set_cons_succ, metN, this]
    omega
theorem metN_lt : ∀ l : List Bool, metN l < l.length → ∃ i, ∃ h : i < l.length, l[i] = false
  | [], h => by simp [metN] at h
  | b :: l, h => by
    cases b
    · exact ⟨0, by simp, rfl⟩
    · obtain ⟨i, hi, he⟩ := metN_lt l (by simp [metN] at h; omega)
      exact ⟨i + 1, by simpa using hi, by simpa using he⟩
theorem metN_all : ∀ l : List Bool, metN l = l.length → ∀ i (h : i < l.length), l[i] = true
  | b :: l, h, 0, _ => by
    have := metN_le l
    cases b
    · simp [metN] at h; omega
    · rfl
  | b :: l, h, i + 1, hi => by
    have h1 := metN_le l
    have := metN_all l (by cases b <;> simp [metN] at h <;> omega) i (by simpa using hi)
    simpa using this
theorem metN_none (n : Nat) : metN (List.replicate n false) = 0 := by
  induction n with
  | zero => rfl
  | succ n ih => simp [List.replicate_succ, metN, ih]
/-- The polls that are met are due after now, the others now or before, and none before the last that came. -/
structure Fair (n : Nat) (ts : List (Int × Int)) (ms : List Bool) (now L : Int) (k : Nat) : Prop where
  len : ms.length = n
  cnt : metN ms = k
  yes : ∀ j, ms[j]? = some true → now < dueP ts j
  no : ∀ j, ms[j]? = some false → dueP ts j ≤ now ∧ L ≤ dueP ts j
theorem fair_start {n : Nat} {ts : List (Int × Int)} {now : Int} (h : ∀ j, j < n → dueP ts j ≤ now) (h2 : ∀ j, 0 ≤ dueP ts j) : Fair n ts (List.replicate n false) now (-1) 0 := by
  refine ⟨by simp, metN_none n, fun j hj => ?_, fun j hj => ?_⟩
  · rw [List.getElem?_replicate] at hj
    split at hj <;> simp at hj
  · rw [List.getElem?_replicate] at hj
    split at hj
    · rename_i hl
      have := h j hl
      have := h2 j
      omega
    · cases hj
theorem fair_next {l : List Int} {ts : List (Int × Int)} {ms : List Bool} {now L : Int} {k : Nat} (h : Fair l.length ts ms now L k) (hk : PollsOk l ts) (hkl : k < l.length) (h0 : 0 ≤ now) (h1 : now ≤ 549755813888) :
    ∃ m, nextP ts now = some m ∧ m < l.length ∧ ms[m]? = some false ∧ L ≤ dueP ts m ∧ doneR ts m now ∧ Fair l.length (doneA ts m now) (ms.set m true) now (dueP ts m) (k + 1) := by
  obtain ⟨i, hi, hf⟩ := metN_lt ms (by rw [h.cnt, h.len]; exact hkl)
  have hi' : ms[i]? = some false := by rw [List.getElem?_eq_getElem hi, hf]
  have hd := h.no i hi'
  rcases nextP_is ts now with ⟨_, h2⟩ | ⟨m, h2, h3, h4, h5⟩
  · have := h2 i (by rw [hk.len]; rw [h.len] at hi; exact hi)
    omega
  · have hml : m < l.length := by rw [← hk.len]; exact h3
    have hmm : m < ms.length := by rw [h.len]; exact hml
    have hmf : ms[m]? = some false := by
      rw [List.getElem?_eq_getElem hmm]
      cases e : ms[m]
      · rfl
      · have := h.yes m (by rw [List.getElem?_eq_getElem hmm, e])
        omega
    have hr : doneR ts m now := ⟨⟨by omega, by omega⟩, h0, by omega⟩
    refine ⟨m, h2, hml, hmf, (h.no m hmf).2, hr, ?_⟩
    have ha : doneA ts m now = doneP ts m now := by unfold doneA; rw [if_pos hr, Int.toNat_natCast]
    have he := hk.every m hml
    have hb := every_get hk.2.1 m hml
    rw [ha]
    refine ⟨by rw [List.length_set]; exact h.len, ?_, fun j hj => ?_, fun j hj => ?_⟩
    · rw [metN_set ms m hmm (by rw [List.getElem?_eq_getElem hmm] at hmf; exact Option.some.inj hmf), h.cnt]
    · rw [dueP_done _ _ _ _ h3]
      split
      · rw [he]; omega
      · rename_i hne
        rw [List.getElem?_set_ne (fun e => hne e.symm)] at hj
        exact h.yes j hj
    · by_cases hne : j = m
      · subst hne
        rw [List.getElem?_set_self hmm] at hj
        cases hj
      · rw [List.getElem?_set_ne (fun e => hne e.symm)] at hj
        rw [dueP_done _ _ _ _ h3, if_neg hne]
        have hjl : j < ms.length := (List.getElem?_eq_some_iff.1 hj).1
        have h6 := h5 j (by rw [hk.len, ← h.len]; exact hjl)
        have := h.no j hj
        omega
theorem fair_end {l : List Int} {ts : List (Int × Int)} {ms : List Bool} {now L : Int} (h : Fair l.length ts ms now L l.length) (hk : PollsOk l ts) : nextP ts now = none := by
  rcases nextP_is ts now with ⟨h2, _⟩ | ⟨m, h2, h3, h4, h5⟩
  · exact h2
  · have hml : m < ms.length := by rw [h.len, ← hk.len]; exact h3
    have h6 := metN_all ms (by rw [h.cnt, h.len]) m hml
    have := h.yes m (by rw [List.getElem?_eq_getElem hml, h6])
    omega
/-- Truth values as cells. -/
def mcells (l : List Bool) : List Value := l.map .bool
theorem mcells_length (l : List Bool) : (mcells l).length = l.length := by simp [mcells]
theorem mcells_set (l : List Bool) (i : Nat) (b : Bool) : (mcells l).set i (.bool b) = mcells (l.set i b) := by simp [mcells, List.map_set]
theorem info4p : ∃ i0, Try.prog.info? 4 = some i0 ∧ i0.zero = some (.bool false) ∧ i0.size = 1 ∧ i0.bytes = 1 := by
  have : (Try.prog.info? 4).map (fun i => (i.zero, i.size, i.bytes)) = some (some (.bool false), 1, 1) := by kernel_rfl
  cases h : Try.prog.info? 4 with
  | none => rw [h] at this; cases this
  | some i0 => rw [h] at this; simp at this; exact ⟨i0, rfl, this.1, this.2.1, this.2.2⟩
theorem made_bools (n : Nat) : (madeCells (Value.bool false).cells (n * 1)).toList = mcells (List.replicate n false) := by
  rw [Nat.mul_one]
  show (madeCells #[Value.bool false] n).toList = _
  rw [toList_madeCells_one]
  simp [mcells]
end Go.Proofs.Ytcbiomcbkmdhaaa
