/- A row of timers: many cells set at once, copy and clear of structs of two cells; slices.Delete over such a row. -/
import Derived.Test.YtfefkkojdcipcaaDoorMem
import Derived.Deep.RegionLaw
import Derived.Lib.SliceRun
import Derived.Laws.IdiomCopy
import Derived.Laws.CopyRow
import Derived.Deep.AppendLies
namespace Go.Proofs.YtfefkkojdcipcaaDoor
open Go.RowKit Go.Extern.Stop Go.Stop Go.Extern

theorem heap_setCells (b : Nat) (t : TypeId) (fr : Nat × Nat) : ∀ (vs : List Value) (o : Nat) (w : World) (cur : Array Value), w.heap[b]? = some (.cells cur t fr) → o + vs.length ≤ cur.size →
    ∃ cur', (w.setCells b o vs).heap[b]? = some (.cells cur' t fr) ∧ cur'.toList = cur.toList.take o ++ vs ++ cur.toList.drop (o + vs.length)
  | [], o, w, cur, h, _ => ⟨cur, h, by simp⟩
  | v :: r, o, w, cur, h, hl => by
    simp only [List.length_cons] at hl
    obtain ⟨cur', h1, h2⟩ := heap_setCells b t fr r (o + 1) (w.setCell ⟨b, o, none⟩ v) (cur.setIfInBounds o v) (heap_set w b o cur t fr v h) (by simp; omega)
    refine ⟨cur', h1, ?_⟩
    rw [h2]
    have e := list_seg_step cur.toList o v r (by simp; omega)
    simpa [Array.toList_setIfInBounds, Nat.add_assoc] using e
theorem Off.setCells (S : Nat → Prop) (b : Nat) (hb : S b) : ∀ (vs : List Value) (o : Nat) (w : World), Off S w (w.setCells b o vs)
  | [], _, w => Off.refl S w
  | v :: r, o, w => (Off.set S w ⟨b, o, none⟩ v hb).trans (Off.setCells S b hb r (o + 1) _)
theorem Off.drew {S : Nat → Prop} {a b : World} (h : Off S a b) : Off S a b.drew := ⟨h.os, h.tape, h.output, h.size, h.block⟩

theorem copy_two (w : World) (dT sT ty elem : TypeId) (b o dLen dCap : Nat) (a : Addr) (sLen sCap : Nat) (cs : List Value)
    (hu : Tryd.prog.underlying dT = some (.slice elem)) (hs : (Tryd.prog.info? elem).map (·.size) = some 2) (hn : cs.length = Nat.min sLen dLen * 2)
    (hsrc : ∀ j v, cs[j]? = some v → w.cell? (a.add j) = some v) (hc : ∀ j, j < cs.length → (w.cell? ⟨b, o + j, none⟩).isSome = true) (hf : ∀ j, j < cs.length → w.frozen? ⟨b, o + j, none⟩ = false) (h1 : ∀ v ∈ cs, v.oneCell' = true) :
    (Builtin.copy_ #[dT, sT] ty #[.slice (some ⟨b, o, none⟩) dLen dCap, .slice (some a) sLen sCap]).run Tryd.prog w = .ok (goInt (Nat.min sLen dLen)) (w.setCells b o cs) := by
  have hl := run_loadCells_list (P := Tryd.prog) w a cs hsrc
  have hst := run_storeCells_cells (P := Tryd.prog) b o cs 0 w (by simpa using hc) (by simpa using hf) h1
  cases hq : Tryd.prog.info? elem with
  | none => simp [hq] at hs
  | some i =>
    have hi : i.size = 2 := by simpa [hq] using hs
    simp [Builtin.copy_, run_underlying hu, Builtin.lenOf, Builtin.firstCells, sizeOf, typeInfo, hq, hi, ← hn, hl, hst]
def zT : Value := .agg #[.int .i64 0, .int .i64 0]
theorem zeros_two (n : Nat) : (Builtin.zeroCells zT.cells n).toList = tcells (List.replicate n (0, 0)) := by
  apply List.ext_getElem?
  intro k
  by_cases hk : k < n * 2
  · have hg := tcells_get (List.replicate n ((0 : Int), (0 : Int))) (k / 2) (by simp; omega)
    simp only [List.getElem_replicate] at hg
    have hz : (Builtin.zeroCells zT.cells n).toList[k]? = some (.int .i64 0) := by
      simp only [Builtin.zeroCells, zT, Value.cells]
      rcases Nat.mod_two_eq_zero_or_one k with h | h <;> simp [hk, h]
    rw [hz]
    rcases Nat.mod_two_eq_zero_or_one k with h | h
    · rw [show k = k / 2 * 2 by omega, hg.1]
    · rw [show k = k / 2 * 2 + 1 by omega, hg.2]
  · rw [List.getElem?_eq_none (by simp [Builtin.zeroCells, zT, Value.cells]; omega), List.getElem?_eq_none (by rw [tcells_length]; simp; omega)]
theorem clear_two (w : World) (t e ty : TypeId) (ht : Tryd.prog.underlying t = some (.slice e)) (hv : ∀ w, (zeroValue e).run Tryd.prog w = .ok zT w) (b o n c : Nat) (hn : 0 < n)
    (hc : ∀ j, j < n * 2 → (w.cell? ⟨b, o + j, none⟩).isSome = true) (hf : ∀ j, j < n * 2 → w.frozen? ⟨b, o + j, none⟩ = false) :
    (Builtin.clear_ #[t] ty #[.slice (some ⟨b, o, none⟩) n c]).run Tryd.prog w = .ok (.tuple #[]) (w.setCells b o (tcells (List.replicate n (0, 0)))) := by
  have hst := run_storeCells_cells (P := Tryd.prog) b o (tcells (List.replicate n (0, 0))) 0 w (by rw [tcells_length]; simpa using hc) (by rw [tcells_length]; simpa using hf) (tcells_one _)
  simp only [Nat.add_zero] at hst
  obtain ⟨m, rfl⟩ : ∃ m, n = m + 1 := ⟨n - 1, by omega⟩
  simp [Builtin.clear_, run_underlying ht, hv, zeros_two, hst]

theorem info70 : (Tryd.prog.info? 70).map (fun i => (i.zero, i.size, i.bytes)) = some (some (.agg #[.int .i64 0, .int .i64 0]), 2, 16) := by kernel_rfl
theorem info70s : (Tryd.prog.info? 70).map (·.size) = some 2 := by kernel_rfl
/-- What is left of a row, its first cells seen as timers. -/
theorem row_cells {w : World} {g : Nat} {cur : Array Value} {e : TypeId} {ts : List (Int × Int)} (hh : w.heap[g]? = some (.cells cur e (0, 0))) (hx : cur.toList.take (ts.length * 2) = tcells ts) (j : Nat) (u : Value) (hj : (tcells ts)[j]? = some u) : w.cell? ⟨g, j, none⟩ = some u := by
  rw [cell_of_row _ _ _ _ _ _ hh, ← Array.getElem?_toList]
  rw [← hx, List.getElem?_take] at hj
  split at hj
  · exact hj
  · cases hj

set_option maxRecDepth 100000 in
set_option maxHeartbeats 4000000 in
theorem delete_some (B g cap : Nat) (cur : Array Value) (ts : List (Int × Int)) (i j : Nat) (w : World) (hB : B ≤ g) (hh : w.heap[g]? = some (.cells cur 70 (0, 0))) (hc : ts.length ≤ cap) (hm : cap ≤ maxLen) (hz : cur.size = cap * 2) (hx : cur.toList.take (ts.length * 2) = tcells ts) (hij : i < j) (hj : j ≤ ts.length) :
    Calls Tryd.prog 36 #[.slice (some ⟨g, 0, none⟩) ts.length cap, .int .i64 i, .int .i64 j] w fun e w' =>
      e = .returned (.slice (some ⟨g, 0, none⟩) (i + (ts.length - j)) cap) ∧ w'.ownsRow B 70 2 (.slice (some ⟨g, 0, none⟩) (i + (ts.length - j)) cap) (i + (ts.length - j)) (tcells (ts.take i ++ ts.drop j)) ∧ Off (fun k => k = g) w w' := by
  obtain ⟨i0, hi0, hz0, hz1, hz2⟩ : ∃ i0, Tryd.prog.info? 70 = some i0 ∧ i0.zero = some (.agg #[.int .i64 0, .int .i64 0]) ∧ i0.size = 2 ∧ i0.bytes = 16 := by
    have := info70
    cases h : Tryd.prog.info? 70 with
    | none => rw [h] at this; cases this
    | some i0 => rw [h] at this; simp at this; exact ⟨i0, rfl, this.1, this.2.1, this.2.2⟩
  obtain ⟨news, hnews⟩ : ∃ news, news = tcells (ts.drop j) := ⟨_, rfl⟩
  have hlen : news.length = (ts.length - j) * 2 := by rw [hnews, tcells_length, List.length_drop]
  have hmx : cap ≤ 9223372036854775807 := by unfold maxLen at hm; omega
  obtain ⟨A, hA, hsrc⟩ : ∃ A : Addr, (if cap = j then some (⟨g, 0, none⟩ : Addr) else some ⟨g, j * 2, none⟩) = some A ∧ Hid (∀ t u, news[t]? = some u → w.drew.cell? (A.add t) = some u) := by
    by_cases h : cap = j
    · refine ⟨⟨g, 0, none⟩, by simp [h], Lib.hid fun t u hu => ?_⟩
      have h0 : news.length = 0 := by rw [hlen]; omega
      rw [List.length_eq_zero_iff.1 h0] at hu
      simp at hu
    · refine ⟨⟨g, j * 2, none⟩, by simp [h], Lib.hid fun t u hu => ?_⟩
      rw [Addr.add_lit]
      refine row_cells (w := w) hh hx _ u ?_
      rwa [hnews, ← tcells_drop, List.getElem?_drop] at hu
  have s1 : Hid (news.length = (ts.length - j) * 2) := Lib.hid hlen
  have s2 : Hid (∀ u ∈ news, u.oneCell' = true) := Lib.hid (by rw [hnews]; exact tcells_one _)
  have s3 : Hid (∀ t, t < news.length → (w.drew.cell? ⟨g, 0 + i * 2 + t, none⟩).isSome = true ∧ w.drew.frozen? ⟨g, 0 + i * 2 + t, none⟩ = false) := Lib.hid fun t ht => by
    rw [hlen] at ht
    refine ⟨?_, frozen_of_row w _ _ _ _ hh⟩
    show (w.cell? _).isSome = true
    rw [cell_of_row _ _ _ _ _ _ hh, Array.getElem?_eq_getElem (by omega)]
    rfl
  obtain ⟨W1, hW1⟩ : ∃ W1, W1 = w.drew.setCells g (0 + i * 2) news := ⟨_, rfl⟩
  obtain ⟨cur1, hc1, hl1⟩ := heap_setCells g 70 (0, 0) news (0 + i * 2) w.drew cur hh (by rw [hlen]; omega)
  rw [← hW1] at hc1
  have hsz1 : cur1.size = cap * 2 := by
    rw [← Array.length_toList, hl1]
    simp only [List.length_append, List.length_take, List.length_drop, Array.length_toList, hlen]
    omega
  have hcl : ∀ ty c, (Builtin.clear_ #[59] ty #[.slice (some ⟨g, (i + (ts.length - j)) * 2, none⟩) (ts.length - (i + (ts.length - j))) c]).run Tryd.prog W1 = .ok (.tuple #[]) (W1.setCells g ((i + (ts.length - j)) * 2) (tcells (List.replicate (ts.length - (i + (ts.length - j))) (0, 0)))) :=
    fun ty c => clear_two W1 59 70 ty Tryd.underlying59 Tryd.zeroValue70 g _ _ _ (by omega)
      (fun t ht => by rw [cell_of_row _ _ _ _ _ _ hc1, Array.getElem?_eq_getElem (by omega)]; rfl) (fun t _ => frozen_of_row W1 _ _ _ _ hc1)
  have hic : i ≤ cap := by omega
  have hjc : j ≤ cap := by omega
  have hW : Hid (W1 = w.drew.setCells g (0 + i * 2) news) := Lib.hid hW1
  have HX : Hid (cur1.toList = List.take (0 + i * 2) cur.toList ++ news ++ List.drop (0 + i * 2 + news.length) cur.toList ∧ W1.heap[g]? = some (.cells cur1 70 (0, 0)) ∧ cur1.size = cap * 2 ∧ cur.size = cap * 2 ∧ cur.toList.take (ts.length * 2) = tcells ts ∧ news = tcells (ts.drop j) ∧ B ≤ g ∧ cap ≤ maxLen) := Lib.hid ⟨hl1, hc1, hsz1, hz, hx, hnews, hB, hm⟩
  clear hW1 hl1 hc1 hsz1 hz hx hlen hnews hh hB hm
  go_enter Tryd.func36, Tryd.ntmps36
  go_wp2_with fail
  go_region_law (refine step_append_room rfl (.tmp 22) (.tmp 25) 59 rfl 70 i0 2 Tryd.underlying59 hi0 hz1 g 0 i cap (by simp [Act.eval, Act.put]) A (ts.length - j) (cap - j) news (by simp [Act.eval, Act.put]) s1.out hsrc.out s2.out (by omega) s3.out ?_; rw [← hW.out])
  go_wp2
  go_ret
  obtain ⟨hl1, hc1, hsz1, hz, hx, hnews, hB, hm⟩ := HX.out
  have hl2 := s1.out
  obtain ⟨cur2, hc2, hl3⟩ := heap_setCells g 70 (0, 0) (tcells (List.replicate (ts.length - (i + (ts.length - j))) (0, 0))) ((i + (ts.length - j)) * 2) W1 cur1 hc1 (by rw [tcells_length, List.length_replicate]; omega)
  refine ⟨rfl, ⟨?_, .inr ⟨g, cap, cur2, rfl, hB, hc2, by omega, hm, ?_, ?_⟩⟩, ?_⟩
  · rw [tcells_length, List.length_append, List.length_take, List.length_drop]; omega
  · rw [← Array.length_toList, hl3]
    simp only [List.length_append, List.length_take, List.length_drop, Array.length_toList, tcells_length, List.length_replicate]
    omega
  · have e1 : (cur2.toList.take ((i + (ts.length - j)) * 2)) = cur1.toList.take ((i + (ts.length - j)) * 2) := by
      rw [hl3, List.append_assoc, List.take_append_of_le_length (by simp; omega), List.take_take, Nat.min_self]
    rw [e1, hl1, List.take_append_of_le_length (by simp; omega), tcells_append, ← tcells_take, ← hx, ← hnews, List.take_take, Nat.min_eq_left (by omega), Nat.zero_add, List.take_of_length_le (by simp; omega)]
  · have h1 : Off (fun k => k = g) w W1 := by rw [hW.out]; exact (Off.refl (fun k => k = g) w).drew.trans (Off.setCells (fun k => k = g) g rfl _ _ _)
    exact h1.trans (Off.setCells (fun k => k = g) g rfl _ _ _)

/-- slices.Delete of timers: in place. -/
theorem delete_any (B : Nat) (v : Value) (ts : List (Int × Int)) (i j : Nat) (w : World) (h : w.ownsRow B 70 2 v ts.length (tcells ts)) (hij : i ≤ j) (hj : j ≤ ts.length) :
    Calls Tryd.prog 36 #[v, .int .i64 i, .int .i64 j] w fun e w' => ∃ v', e = .returned v' ∧ w'.ownsRow B 70 2 v' (ts.take i ++ ts.drop j).length (tcells (ts.take i ++ ts.drop j)) ∧ v'.ownBlock = v.ownBlock ∧ Off (fun k => v.ownBlock = some k) w w' := by
  by_cases hlt : i < j
  · rcases h.2 with ⟨hv, h0⟩ | ⟨g, cap, cur, hv, hB, hh, hc, hm, hz, hx⟩
    · omega
    · subst hv
      refine (delete_some B g cap cur ts i j w hB hh hc hm hz hx hlt hj).mono ?_
      rintro e w' ⟨rfl, ho, hk⟩
      refine ⟨_, rfl, ?_, rfl, hk.mono fun k _ s => by rw [s]; rfl⟩
      rw [show (ts.take i ++ ts.drop j).length = i + (ts.length - j) by rw [List.length_append, List.length_take, List.length_drop]; omega]
      exact ho
  · have he : i = j := by omega
    subst he
    have hf : ts.take i ++ ts.drop i = ts := List.take_append_drop i ts
    rw [hf]
    rcases h.2 with ⟨hv, h0⟩ | ⟨g, cap, cur, hv, hB, hh, hc, hm, hz, hx⟩
    · subst hv
      have hi : i = 0 := by omega
      subst hi
      refine Calls.mono (R := fun e w' => e = .returned (.slice none 0 0) ∧ w = w') ?_ ?_
      · clear h h0 hj hf hij hlt
        go_enter Tryd.func36, Tryd.ntmps36
        go_wp2
        go_ret
        exact ⟨rfl, rfl⟩
      · rintro e w' ⟨rfl, rfl⟩
        exact ⟨_, rfl, h, rfl, Off.refl _ _⟩
    · subst hv
      refine Calls.mono (R := fun e w' => e = .returned (.slice (some ⟨g, 0, none⟩) ts.length cap) ∧ w = w') ?_ ?_
      · clear h hm hz hx hf hij hlt hh hB
        go_enter Tryd.func36, Tryd.ntmps36
        go_wp2
        all_goals
          go_ret
          exact ⟨rfl, rfl⟩
      · rintro e w' ⟨rfl, rfl⟩
        exact ⟨_, rfl, h, rfl, Off.refl _ _⟩
end Go.Proofs.YtfefkkojdcipcaaDoor
