/- plan's polls as plain values: which is told next, what Done makes, and why each is told once. -/
import Derived.Test.YtcbiomcbkmdhaaaDoorMem
namespace Go.Proofs.YtcbiomcbkmdhaaaDoor

/-- When the poll i is due. -/
def dueP (ts : List (Int × Int)) (i : Nat) : Int := (ts.getD i (0, 0)).2
/-- Which poll is told, of the first k. -/
def nextTo (ts : List (Int × Int)) (now : Int) : Nat → Option Nat
  | 0 => none
  | k + 1 => match nextTo ts now k with
    | none => if dueP ts k ≤ now then some k else none
    | some n => if dueP ts k ≤ now ∧ dueP ts k < dueP ts n then some k else some n
def nextP (ts : List (Int × Int)) (now : Int) : Option Nat := nextTo ts now ts.length
theorem nextTo_is (ts : List (Int × Int)) (now : Int) : ∀ k, (nextTo ts now k = none ∧ ∀ j, j < k → now < dueP ts j) ∨
    ∃ n, nextTo ts now k = some n ∧ n < k ∧ dueP ts n ≤ now ∧ ∀ j, j < k → dueP ts n < dueP ts j ∨ dueP ts n = dueP ts j ∧ n ≤ j
  | 0 => .inl ⟨rfl, fun j hj => by omega⟩
  | k + 1 => by
    rcases nextTo_is ts now k with ⟨h1, h2⟩ | ⟨n, h1, h2, h3, h4⟩
    · by_cases h : dueP ts k ≤ now
      · refine .inr ⟨k, by simp [nextTo, h1, h], by omega, h, fun j hj => ?_⟩
        rcases Nat.lt_or_ge j k with hj' | hj'
        · have := h2 j hj'; omega
        · have : j = k := by omega
          subst this; omega
      · refine .inl ⟨by simp [nextTo, h1, h], fun j hj => ?_⟩
        rcases Nat.lt_or_ge j k with hj' | hj'
        · exact h2 j hj'
        · have : j = k := by omega
          subst this; omega
    · by_cases h : dueP ts k ≤ now ∧ dueP ts k < dueP ts n
      · refine .inr ⟨k, by simp [nextTo, h1, h], by omega, h.1, fun j hj => ?_⟩
        rcases Nat.lt_or_ge j k with hj' | hj'
        · have := h4 j hj'; omega
        · have : j = k := by omega
          subst this; omega
      · refine .inr ⟨n, by simp only [nextTo, h1]; rw [if_neg h], by omega, h3, fun j hj => ?_⟩
        rcases Nat.lt_or_ge j k with hj' | hj'
        · exact h4 j hj'
        · have : j = k := by omega
          subst this; omega
/-- What is told, said whole. -/
theorem nextP_is (ts : List (Int × Int)) (now : Int) : (nextP ts now = none ∧ ∀ j, j < ts.length → now < dueP ts j) ∨
    ∃ n, nextP ts now = some n ∧ n < ts.length ∧ dueP ts n ≤ now ∧ ∀ j, j < ts.length → dueP ts n < dueP ts j ∨ dueP ts n = dueP ts j ∧ n ≤ j := nextTo_is ts now ts.length
/-- Done. -/
def doneP (ts : List (Int × Int)) (i : Nat) (now : Int) : List (Int × Int) := ts.set i ((ts.getD i (0, 0)).1, now + (ts.getD i (0, 0)).1)
theorem doneP_length (ts : List (Int × Int)) (i : Nat) (now : Int) : (doneP ts i now).length = ts.length := by simp [doneP]
theorem dueP_done (ts : List (Int × Int)) (i j : Nat) (now : Int) (hi : i < ts.length) : dueP (doneP ts i now) j = if j = i then now + (ts.getD i (0, 0)).1 else dueP ts j := by
  unfold dueP doneP
  by_cases h : j = i
  · subst h; simp [hi]
  · rw [if_neg h]
    simp only [List.getD_eq_getElem?_getD]
    rw [List.getElem?_set_ne (fun e => h e.symm)]
theorem every_done (ts : List (Int × Int)) (i : Nat) (now : Int) : (doneP ts i now).map (·.1) = ts.map (·.1) := by
  apply List.ext_getElem (by simp [doneP])
  intro j h1 h2
  simp only [doneP, List.getElem_map, List.getElem_set]
  split
  · rename_i e
    subst e
    simp at h2
    simp [h2]
  · rfl
/-- Polls as New makes them. -/
def newP (l : List Int) : List (Int × Int) := l.map fun x => (x, 0)
theorem newP_length (l : List Int) : (newP l).length = l.length := by simp [newP]
theorem newP_every (l : List Int) : (newP l).map (·.1) = l := by
  unfold newP
  rw [List.map_map]
  exact List.map_id l
theorem newP_due (l : List Int) (i : Nat) : dueP (newP l) i = 0 := by
  unfold dueP newP
  by_cases h : i < l.length
  · simp [List.getD, h]
  · simp [List.getD, h]
/-- Are all intervals right? -/
def EveryOk (l : List Int) : Prop := ∀ x ∈ l, 1 ≤ x ∧ x ≤ 10000
/-- The first wrong interval, from the place k on. -/
def wrongAt : List Int → Nat → Option Nat
  | [], _ => none
  | x :: l, k => if x < 1 ∨ 10000 < x then some k else wrongAt l (k + 1)
theorem wrongAt_is : ∀ (l : List Int) (k : Nat), (wrongAt l k = none ∧ EveryOk l) ∨ ∃ j, ∃ h : j < l.length, wrongAt l k = some (k + j) ∧ (l[j] < 1 ∨ 10000 < l[j]) ∧ EveryOk (l.take j)
  | [], k => .inl ⟨rfl, fun x hx => by cases hx⟩
  | x :: l, k => by
    by_cases h : x < 1 ∨ 10000 < x
    · exact .inr ⟨0, by simp, by simp [wrongAt, h], by simpa using h, fun y hy => by simp at hy⟩
    · rcases wrongAt_is l (k + 1) with ⟨h1, h2⟩ | ⟨j, hj, h1, h2, h3⟩
      · refine .inl ⟨by simp [wrongAt, h, h1], fun y hy => ?_⟩
        rcases List.mem_cons.1 hy with rfl | hy
        · omega
        · exact h2 y hy
      · refine .inr ⟨j + 1, by simpa using hj, by simp only [wrongAt, h, if_false, h1]; congr 1; omega, by simpa using h2, fun y hy => ?_⟩
        rw [List.take_succ_cons] at hy
        rcases List.mem_cons.1 hy with rfl | hy
        · omega
        · exact h3 y hy
theorem every_get {l : List Int} (h : EveryOk l) (i : Nat) (hi : i < l.length) : 1 ≤ l[i] ∧ l[i] ≤ 10000 := h _ (List.getElem_mem hi)
/-- A Plan's polls, as they may be: intervals and times in their bounds. -/
def PollsOk (l : List Int) (ts : List (Int × Int)) : Prop := ts.map (·.1) = l ∧ EveryOk l ∧ ∀ j, 0 ≤ dueP ts j ∧ dueP ts j ≤ 1099511637776
theorem pollsOk_new {l : List Int} (h : EveryOk l) : PollsOk l (newP l) := ⟨newP_every l, h, fun j => by rw [newP_due]; omega⟩
theorem PollsOk.len {l : List Int} {ts : List (Int × Int)} (h : PollsOk l ts) : ts.length = l.length := by rw [← h.1]; simp
theorem PollsOk.every {l : List Int} {ts : List (Int × Int)} (h : PollsOk l ts) (i : Nat) (hi : i < l.length) : (ts.getD i (0, 0)).1 = l[i] := by
  have := h.1
  subst this
  simp at hi
  simp [hi]
theorem PollsOk.done {l : List Int} {ts : List (Int × Int)} (h : PollsOk l ts) (i : Nat) (now : Int) (hi : i < l.length) (h0 : 0 ≤ now) (h1 : now ≤ 1099511627776) : PollsOk l (doneP ts i now) := by
  refine ⟨by rw [every_done, h.1], h.2.1, fun j => ?_⟩
  rw [dueP_done _ _ _ _ (by rw [h.len]; exact hi)]
  split
  · rw [h.every i hi]
    have := every_get h.2.1 i hi
    omega
  · exact h.2.2 j
/-- Done, whatever it is asked. -/
def doneR (ts : List (Int × Int)) (i now : Int) : Prop := (0 ≤ i ∧ i < ts.length) ∧ 0 ≤ now ∧ now ≤ 1099511627776
instance (ts : List (Int × Int)) (i now : Int) : Decidable (doneR ts i now) := by unfold doneR; infer_instance
def doneA (ts : List (Int × Int)) (i now : Int) : List (Int × Int) := if doneR ts i now then doneP ts i.toNat now else ts
theorem doneA_length (ts : List (Int × Int)) (i now : Int) : (doneA ts i now).length = ts.length := by
  unfold doneA
  split
  · exact doneP_length ..
  · rfl
theorem PollsOk.doneA {l : List Int} {ts : List (Int × Int)} (h : PollsOk l ts) (i now : Int) : PollsOk l (doneA ts i now) := by
  unfold YtcbiomcbkmdhaaaDoor.doneA
  split
  · rename_i hr
    obtain ⟨⟨h1, h2⟩, h3, h4⟩ := hr
    exact h.done i.toNat now (by rw [← h.len]; omega) h3 h4
  · exact h
end Go.Proofs.YtcbiomcbkmdhaaaDoor
