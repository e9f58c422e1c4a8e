/- Lists of timers: what Set, Cancel and Tick leave of them; arithmetic and lists alone. -/
import Derived.Test.YtfefkkojdcipcaaDoorTick
namespace Go.Proofs.YtfefkkojdcipcaaDoor

theorem before_iff (a b : Int × Int) : beforeT a b = true ↔ a.2 < b.2 ∨ (a.2 = b.2 ∧ a.1 < b.1) := by
  simp [beforeT]
theorem before_trans {a b c : Int × Int} (h : beforeT a b = true) (k : beforeT b c = true) : beforeT a c = true := by
  rw [before_iff] at *
  omega
theorem before_le {a b : Int × Int} (h : beforeT a b = true) : a.2 ≤ b.2 := by
  rw [before_iff] at h
  omega
theorem before_total {a b : Int × Int} (h : beforeT a b = false) (hn : a.1 ≠ b.1) : beforeT b a = true := by
  rw [← Bool.not_eq_true, before_iff] at h
  rw [before_iff]
  omega
/-- Timers in their order, each number once, in their bounds. -/
structure Good (ts : List (Int × Int)) : Prop where
  sorted : ts.Pairwise fun a b => beforeT a b = true
  nodup : ts.Pairwise fun a b => a.1 ≠ b.1
  rng : ∀ t ∈ ts, (0 ≤ t.1 ∧ t.1 ≤ 1000) ∧ 0 ≤ t.2 ∧ t.2 ≤ 1099511627776
theorem good_nil : Good [] := ⟨.nil, .nil, fun t h => by cases h⟩
theorem Good.sub {l m : List (Int × Int)} (h : Good m) (hs : l.Sublist m) : Good l := ⟨h.sorted.sublist hs, h.nodup.sublist hs, fun t ht => h.rng t (hs.subset ht)⟩
theorem eraseT_sub : ∀ (l : List (Int × Int)) (id : Int), (eraseT l id).Sublist l
  | [], _ => .slnil
  | t :: l, id => by
    unfold eraseT
    split
    · exact List.sublist_cons_self t l
    · exact (eraseT_sub l id).cons_cons t
theorem eraseT_filter : ∀ (l : List (Int × Int)) (id : Int), l.Pairwise (fun a b => a.1 ≠ b.1) → eraseT l id = l.filter fun t => decide (t.1 ≠ id)
  | [], _, _ => rfl
  | t :: l, id, h => by
    rw [List.pairwise_cons] at h
    unfold eraseT
    by_cases ht : t.1 = id
    · rw [if_pos ht, List.filter_cons_of_neg (by simp [ht])]
      symm
      rw [List.filter_eq_self]
      intro s hs
      have := h.1 s hs
      simp only [decide_eq_true_eq]
      omega
    · rw [if_neg ht, List.filter_cons_of_pos (by simp [ht]), eraseT_filter l id h.2]
theorem eraseT_no {l : List (Int × Int)} {id : Int} (h : l.Pairwise (fun a b => a.1 ≠ b.1)) : ∀ t ∈ eraseT l id, t.1 ≠ id := fun t ht => by
  rw [eraseT_filter l id h, List.mem_filter] at ht
  simpa using ht.2
theorem insT_cons (t : Int × Int) (l : List (Int × Int)) (x : Int × Int) : insT (t :: l) x = if beforeT t x = true then t :: insT l x else x :: t :: l := by
  unfold insT
  by_cases h : beforeT t x = true
  · simp [List.takeWhile_cons_of_pos, List.dropWhile_cons_of_pos, h]
  · simp [List.takeWhile_cons_of_neg, List.dropWhile_cons_of_neg, h]
theorem mem_insT {t x : Int × Int} : ∀ {l : List (Int × Int)}, t ∈ insT l x ↔ t = x ∨ t ∈ l
  | [] => by simp [insT]
  | s :: l => by
    rw [insT_cons]
    split
    · rw [List.mem_cons, mem_insT, List.mem_cons]
      constructor
      · rintro (h | h | h) <;> simp [h]
      · rintro (h | h | h) <;> simp [h]
    · simp
theorem insT_length : ∀ (l : List (Int × Int)) (x : Int × Int), (insT l x).length = l.length + 1
  | [], x => rfl
  | s :: l, x => by
    rw [insT_cons]
    split
    · rw [List.length_cons, insT_length l x, List.length_cons]
    · rfl
theorem good_insT : ∀ {l : List (Int × Int)} {x : Int × Int}, Good l → (∀ t ∈ l, t.1 ≠ x.1) → ((0 ≤ x.1 ∧ x.1 ≤ 1000) ∧ 0 ≤ x.2 ∧ x.2 ≤ 1099511627776) → Good (insT l x)
  | [], x, _, _, hx => ⟨by simp [insT], by simp [insT], fun t ht => by simp [insT] at ht; subst ht; exact hx⟩
  | s :: l, x, h, hn, hx => by
    have hl : Good l := h.sub (List.sublist_cons_self s l)
    have ih := good_insT hl (fun t ht => hn t (List.mem_cons_of_mem _ ht)) hx
    have h1 := List.pairwise_cons.1 h.sorted
    have h2 := List.pairwise_cons.1 h.nodup
    have hsx := hn s (by simp)
    rw [insT_cons]
    split
    · rename_i hb
      refine ⟨List.pairwise_cons.2 ⟨fun t ht => ?_, ih.sorted⟩, List.pairwise_cons.2 ⟨fun t ht => ?_, ih.nodup⟩, fun t ht => ?_⟩
      · rcases mem_insT.1 ht with rfl | ht
        · exact hb
        · exact h1.1 t ht
      · rcases mem_insT.1 ht with rfl | ht
        · exact hsx
        · exact h2.1 t ht
      · rcases List.mem_cons.1 ht with rfl | ht
        · exact h.rng _ (by simp)
        · exact ih.rng t ht
    · rename_i hb
      have hxs : beforeT x s = true := before_total (by simpa using hb) hsx
      refine ⟨List.pairwise_cons.2 ⟨fun t ht => ?_, h.sorted⟩, List.pairwise_cons.2 ⟨fun t ht => (hn t ht).symm, h.nodup⟩, fun t ht => ?_⟩
      · rcases List.mem_cons.1 ht with rfl | ht
        · exact hxs
        · exact before_trans hxs (h1.1 t ht)
      · rcases List.mem_cons.1 ht with rfl | ht
        · exact hx
        · exact h.rng t ht
/-- What Set takes. -/
def inR (id after : Int) : Prop := (0 ≤ id ∧ id ≤ 1000) ∧ 0 ≤ after ∧ after ≤ 1099511627776
instance (id after : Int) : Decidable (inR id after) := by unfold inR; exact inferInstance
/-- The timers behind a Set, whatever it is asked. -/
def setA (now : Int) (ts : List (Int × Int)) (id after : Int) : List (Int × Int) := if inR id after then setT now ts id after else ts
theorem good_setT {now : Int} {ts : List (Int × Int)} {id after : Int} (h : Good ts) (h0 : 0 ≤ now) (h1 : now ≤ 1099511627776) (hr : inR id after) : Good (setT now ts id after) :=
  good_insT (h.sub (eraseT_sub ts id)) (eraseT_no h.nodup) ⟨hr.1, (laterT_bounds h0 h1 hr.2.1).1, (laterT_bounds h0 h1 hr.2.1).2⟩
theorem good_setA {now : Int} {ts : List (Int × Int)} (id after : Int) (h : Good ts) (h0 : 0 ≤ now) (h1 : now ≤ 1099511627776) : Good (setA now ts id after) := by
  unfold setA
  split
  · exact good_setT h h0 h1 (by assumption)
  · exact h
theorem setT_length (now : Int) (ts : List (Int × Int)) (id after : Int) : (setT now ts id after).length ≤ ts.length + 1 := by
  unfold setT
  rw [insT_length]
  have := eraseT_length ts id
  omega
theorem setA_length (now : Int) (ts : List (Int × Int)) (id after : Int) : (setA now ts id after).length ≤ ts.length + 1 := by
  unfold setA
  split
  · exact setT_length now ts id after
  · omega
theorem atT_some : ∀ {ts : List (Int × Int)} {id a : Int}, atT ts id = some a → (id, a) ∈ ts
  | [], _, _, h => by cases h
  | t :: l, id, a, h => by
    unfold atT at h
    split at h
    · rename_i ht
      simp only [Option.some.injEq] at h
      subst h
      subst ht
      simp
    · exact List.mem_cons_of_mem _ (atT_some h)
theorem atT_mem : ∀ {ts : List (Int × Int)}, ts.Pairwise (fun a b => a.1 ≠ b.1) → ∀ t ∈ ts, atT ts t.1 = some t.2
  | [], _, t, h => by cases h
  | s :: l, hp, t, h => by
    rw [List.pairwise_cons] at hp
    unfold atT
    rcases List.mem_cons.1 h with rfl | h
    · rw [if_pos rfl]
    · rw [if_neg (hp.1 t h)]
      exact atT_mem hp.2 t h
theorem atT_setT {now : Int} {ts : List (Int × Int)} {id after : Int} (h : Good ts) (h0 : 0 ≤ now) (h1 : now ≤ 1099511627776) (hr : inR id after) : atT (setT now ts id after) id = some (laterT now after) :=
  atT_mem (good_setT h h0 h1 hr).nodup (id, laterT now after) (mem_insT.2 (.inl rfl))
theorem Good.head {t : Int × Int} {l : List (Int × Int)} (h : Good (t :: l)) : ∀ s ∈ t :: l, t.2 ≤ s.2 := fun s hs => by
  rcases List.mem_cons.1 hs with rfl | hs
  · exact Int.le_refl _
  · exact before_le ((List.pairwise_cons.1 h.sorted).1 s hs)
theorem good_rest (t : Int) {ts : List (Int × Int)} (h : Good ts) : Good (restT t ts) := h.sub (List.dropWhile_sublist _)
theorem good_due (t : Int) {ts : List (Int × Int)} (h : Good ts) : Good (dueT t ts) := h.sub (List.takeWhile_sublist _)
theorem due_rest (t : Int) (ts : List (Int × Int)) : dueT t ts ++ restT t ts = ts := List.takeWhile_append_dropWhile
theorem due_rest_length (t : Int) (ts : List (Int × Int)) : (dueT t ts).length + (restT t ts).length = ts.length := by rw [← List.length_append, due_rest]
theorem rest_late {t : Int} : ∀ {ts : List (Int × Int)} {s : Int × Int}, (restT t ts).head? = some s → t < s.2
  | [], s, h => by cases h
  | x :: l, s, h => by
    unfold restT at h
    by_cases hx : x.2 ≤ t
    · rw [List.dropWhile_cons_of_pos (by simpa using hx)] at h
      exact rest_late h
    · rw [List.dropWhile_cons_of_neg (by simpa using hx), List.head?_cons] at h
      simp only [Option.some.injEq] at h
      subst h
      omega
theorem due_late {t : Int} : ∀ {ts : List (Int × Int)}, ∀ s ∈ dueT t ts, s.2 ≤ t
  | [], s, hs => by cases hs
  | x :: l, s, hs => by
    unfold dueT at hs
    by_cases hx : x.2 ≤ t
    · rw [List.takeWhile_cons_of_pos (by simpa using hx)] at hs
      rcases List.mem_cons.1 hs with rfl | hs
      · exact hx
      · exact due_late s hs
    · rw [List.takeWhile_cons_of_neg (by simpa using hx)] at hs
      cases hs
theorem due_all {t : Int} : ∀ {ts : List (Int × Int)}, (∀ s ∈ ts, s.2 ≤ t) → dueT t ts = ts ∧ restT t ts = []
  | [], _ => ⟨rfl, rfl⟩
  | x :: l, h => by
    have hx : x.2 ≤ t := h x (by simp)
    obtain ⟨h1, h2⟩ := due_all (ts := l) (fun s hs => h s (List.mem_cons_of_mem _ hs))
    unfold dueT restT at *
    rw [List.takeWhile_cons_of_pos (by simpa using hx), List.dropWhile_cons_of_pos (by simpa using hx), h1, h2]
    exact ⟨rfl, rfl⟩
/-- Two ticks are one. -/
theorem due_two {t u : Int} (h : t ≤ u) : ∀ (ts : List (Int × Int)), dueT t ts ++ dueT u (restT t ts) = dueT u ts ∧ restT u (restT t ts) = restT u ts
  | [] => ⟨rfl, rfl⟩
  | x :: l => by
    obtain ⟨h1, h2⟩ := due_two h l
    by_cases hx : x.2 ≤ t
    · have hu : x.2 ≤ u := by omega
      unfold dueT restT at *
      rw [List.takeWhile_cons_of_pos (by simpa using hx), List.dropWhile_cons_of_pos (by simpa using hx), List.takeWhile_cons_of_pos (l := l) (by simpa using hu), List.dropWhile_cons_of_pos (a := x) (l := l) (by simpa using hu)]
      exact ⟨by rw [List.cons_append, h1], h2⟩
    · unfold dueT restT
      rw [List.takeWhile_cons_of_neg (by simpa using hx), List.dropWhile_cons_of_neg (by simpa using hx)]
      exact ⟨rfl, rfl⟩
theorem sortI_perm (l : List Int) : (sortI l).Perm l := List.mergeSort_perm l _
theorem sortI_le (l : List Int) : (sortI l).Pairwise fun x y => x ≤ y := by
  have := List.pairwise_mergeSort (le := fun x y : Int => decide (x ≤ y)) (by intro a b c h k; simp at *; omega) (by intro a b; simp; omega) l
  refine this.imp ?_
  intro a b h
  simpa using h
theorem ids_ne {ts : List (Int × Int)} (h : Good ts) : (ts.map (·.1)).Pairwise (· ≠ ·) := List.pairwise_map.2 h.nodup
/-- The list of a Wheel rises. -/
theorem sortI_lt {ts : List (Int × Int)} (h : Good ts) : (sortI (ts.map (·.1))).Pairwise fun x y => x < y := by
  have h1 := sortI_le (ts.map (·.1))
  have h2 : (sortI (ts.map (·.1))).Pairwise (· ≠ ·) := ((sortI_perm (ts.map (·.1))).pairwise_iff (by intro a b; exact Ne.symm)).2 (ids_ne h)
  exact h1.imp₂ (fun a b x y => by omega) h2
theorem mem_sortI {ts : List (Int × Int)} {id : Int} : id ∈ sortI (ts.map (·.1)) ↔ ∃ t ∈ ts, t.1 = id := by
  rw [(sortI_perm _).mem_iff, List.mem_map]
end Go.Proofs.YtfefkkojdcipcaaDoor
