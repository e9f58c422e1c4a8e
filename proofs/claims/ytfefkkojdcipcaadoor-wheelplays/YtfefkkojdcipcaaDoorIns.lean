/- slices.Insert of one timer into a row of timers: behind the last, with room, without room. -/
import Derived.Test.YtfefkkojdcipcaaDoorRow
import Derived.Shelf.Spec.SlicesInsert
import Derived.Lib.AppendZerosOnto
namespace Go.Proofs.YtfefkkojdcipcaaDoor
open Go.RowKit Go.Extern.Stop Go.Stop Go.Extern

theorem info70p : ∃ i0, Tryd.prog.info? 70 = some i0 ∧ i0.zero = some zT ∧ i0.size = 2 ∧ i0.bytes = 16 := by
  have := info70
  cases h : Tryd.prog.info? 70 with
  | none => rw [h] at this; cases this
  | some i0 => rw [h] at this; simp at this; exact ⟨i0, rfl, this.1, this.2.1, this.2.2⟩

def InsIs (w : World) (B : Nat) (v : Value) (ts : List (Int × Int)) (e : Ending) (w' : World) : Prop :=
  ∃ v', e = .returned v' ∧ w'.ownsRow B 70 2 v' ts.length (tcells ts) ∧ Off (fun k => v.ownBlock = some k) w w' ∧ ∀ k, v'.ownBlock = some k → v.ownBlock = some k ∨ w.heap.size ≤ k

theorem ins_end {w w2 : World} {B g cap : Nat} {v : Value} {ts : List (Int × Int)} {x1 x2 : Int} (hown : w2.ownsRow B 70 2 (.slice (some ⟨g, 0, none⟩) (ts.length + 1) cap) (ts.length + 1) (tcells ts ++ [.int .i64 x1, .int .i64 x2])) (hgrow : w.grownBy w2 v.ownBlock) (hat : v.ownBlock = some g ∨ g = w.heap.size) :
    InsIs w B v (ts ++ [(x1, x2)]) (.returned (.slice (some ⟨g, 0, none⟩) (ts.length + 1) cap)) w2 := by
  refine ⟨_, rfl, ?_, Off.of_grown hgrow, fun k hk => ?_⟩
  · rw [List.length_append, tcells_append]; exact hown
  · have : g = k := by simpa [Value.ownBlock] using hk
    subst this
    rcases hat with h | h
    · exact .inl h
    · exact .inr (by omega)

set_option maxRecDepth 100000 in
set_option maxHeartbeats 4000000 in
theorem insert_end (B gx : Nat) (v : Value) (ts : List (Int × Int)) (x1 x2 : Int) (w : World) (h : w.ownsRow B 70 2 v ts.length (tcells ts)) (hx : w.heap[gx]? = some (.cells #[.int .i64 x1, .int .i64 x2] 70 (0, 0))) (hl : ts.length ≤ 100000) (hB : B ≤ w.heap.size) :
    Calls Tryd.prog 31 #[v, .int .i64 ts.length, .slice (some ⟨gx, 0, none⟩) 1 1] w (InsIs w B v (ts ++ [(x1, x2)])) := by
  obtain ⟨i0, hi0, hz0, hz1, hz2⟩ := info70p
  have HO := Lib.hid h
  have HX := Lib.hid hx
  obtain ⟨ao, cap, hv, hcap, hm⟩ : ∃ ao cap, v = .slice ao ts.length cap ∧ ts.length ≤ cap ∧ cap ≤ 9223372036854775807 := by
    rcases h.2 with ⟨hv, h0⟩ | ⟨g, cap, cur, hv, _, _, hc, hm, _⟩
    · exact ⟨none, 0, by rw [hv, h0], by omega, by omega⟩
    · exact ⟨_, cap, hv, hc, by unfold maxLen at hm; omega⟩
  subst hv
  clear h hx
  by_cases hq : cap = ts.length
  · subst hq
    go_enter Tryd.func31, Tryd.ntmps31
    go_wp2_with (at_builtin; refine wpList_append_lies _ rfl _ _ 59 rfl B 70 i0 _ 2 16 Tryd.underlying59 hi0 hz0 hz1 hz2 rfl (by omega) (.slice ao ts.length ts.length) ts.length (tcells ts) rfl HO.out ⟨gx, 0, none⟩ 1 1 [.int .i64 x1, .int .i64 x2] rfl rfl (World.news_of_block HX.out) (by simp [Value.oneCell']) (by omega) (by unfold maxLen; omega) (by omega) hB w.heap.size rfl ?_; intro g cap' w2 hown hgrow hat hlt; have HR : Hid (InsIs w B (.slice ao ts.length ts.length) (ts ++ [(x1, x2)]) (.returned (.slice (some ⟨g, 0, none⟩) (ts.length + 1) cap')) w2) := Lib.hid (ins_end hown hgrow hat); clear hown hgrow hat hlt)
    all_goals
      go_ret
      exact HR.out

  · go_enter Tryd.func31, Tryd.ntmps31
    go_wp2_with (at_builtin; refine wpList_append_lies _ rfl _ _ 59 rfl B 70 i0 _ 2 16 Tryd.underlying59 hi0 hz0 hz1 hz2 rfl (by omega) (.slice ao ts.length cap) ts.length (tcells ts) rfl HO.out ⟨gx, 0, none⟩ 1 1 [.int .i64 x1, .int .i64 x2] rfl rfl (World.news_of_block HX.out) (by simp [Value.oneCell']) (by omega) (by unfold maxLen; omega) (by omega) hB w.heap.size rfl ?_; intro g cap' w2 hown hgrow hat hlt; have HR : Hid (InsIs w B (.slice ao ts.length cap) (ts ++ [(x1, x2)]) (.returned (.slice (some ⟨g, 0, none⟩) (ts.length + 1) cap')) w2) := Lib.hid (ins_end hown hgrow hat); clear hown hgrow hat hlt)
    all_goals
      go_ret
      exact HR.out

theorem ins_cells {ts : List (Int × Int)} {i : Nat} {x1 x2 : Int} {c c1 c2 : List Value} (hi : i < ts.length) (hz : (ts.length + 1) * 2 ≤ c.length) (hx : c.take (ts.length * 2) = tcells ts)
    (h1 : c1 = c.take ((i + 1) * 2) ++ tcells (ts.drop i) ++ c.drop ((i + 1) * 2 + (tcells (ts.drop i)).length)) (h2 : c2 = c1.take (i * 2) ++ [Value.int .i64 x1, Value.int .i64 x2] ++ c1.drop (i * 2 + 2)) :
    c2.take ((ts.take i ++ (x1, x2) :: ts.drop i).length * 2) = tcells (ts.take i ++ (x1, x2) :: ts.drop i) := by
  have e0 : (ts.take i ++ (x1, x2) :: ts.drop i).length = ts.length + 1 := by
    simp only [List.length_append, List.length_take, List.length_cons, List.length_drop]; omega
  have e1 : c1.take (i * 2) = tcells (ts.take i) := by
    rw [h1, List.append_assoc, List.take_append_of_le_length (by rw [List.length_take]; omega), List.take_take, Nat.min_eq_left (by omega), ← tcells_take, ← hx, List.take_take, Nat.min_eq_left (by omega)]
  have e2 : (c1.drop (i * 2 + 2)).take ((ts.length - i) * 2) = tcells (ts.drop i) := by
    rw [h1, List.append_assoc, show i * 2 + 2 = (i + 1) * 2 by omega, List.drop_append_of_le_length (by rw [List.length_take]; omega), List.drop_of_length_le (by rw [List.length_take]; omega), List.nil_append, List.take_append_of_le_length (by rw [tcells_length, List.length_drop]; omega), List.take_of_length_le (by rw [tcells_length, List.length_drop]; omega)]
  have l1 : (c1.take (i * 2)).length = i * 2 := by rw [e1, tcells_length, List.length_take]; omega
  rw [e0, h2, List.append_assoc, List.take_append, List.take_of_length_le (by omega), l1, tcells_append, e1]
  congr 1
  rw [show (ts.length + 1) * 2 - i * 2 = (ts.length - i) * 2 + 1 + 1 by omega]
  simp only [List.cons_append, List.nil_append, List.take_succ_cons, tcells, e2]
theorem grow_cells {ts : List (Int × Int)} {i : Nat} {x1 x2 : Int} {z0 z1 z2 z3 : List Value} (hi : i < ts.length) :
    ((((tcells (ts.take i) ++ z0 ++ z1).take (i * 2) ++ [Value.int .i64 x1, Value.int .i64 x2] ++ z2).take ((i + 1) * 2) ++ tcells (ts.drop i) ++ z3)).take ((ts.length + 1) * 2) = tcells (ts.take i ++ (x1, x2) :: ts.drop i) := by
  have l1 : (tcells (ts.take i)).length = i * 2 := by rw [tcells_length, List.length_take]; omega
  have l2 : (tcells (ts.drop i)).length = (ts.length - i) * 2 := by rw [tcells_length, List.length_drop]
  rw [List.append_assoc (tcells _) z0, List.take_left' l1]
  have l3 : (tcells (ts.take i) ++ [Value.int .i64 x1, Value.int .i64 x2]).length = (i + 1) * 2 := by rw [List.length_append, l1]; simp; omega
  rw [List.take_left' l3]
  have l4 : (tcells (ts.take i) ++ [Value.int .i64 x1, Value.int .i64 x2] ++ tcells (ts.drop i)).length = (ts.length + 1) * 2 := by rw [List.length_append, l3, l2]; omega
  rw [List.take_left' l4, tcells_append, List.append_assoc]
  rfl

set_option maxRecDepth 100000 in
set_option maxHeartbeats 4000000 in
theorem insert_room (B g cap gx : Nat) (cur : Array Value) (ts : List (Int × Int)) (i : Nat) (x1 x2 : Int) (w : World) (hB : B ≤ g) (hh : w.heap[g]? = some (.cells cur 70 (0, 0))) (hc : ts.length + 1 ≤ cap) (hm : cap ≤ maxLen) (hz : cur.size = cap * 2) (hx : cur.toList.take (ts.length * 2) = tcells ts)
    (hi : i < ts.length) (hgx : w.heap[gx]? = some (.cells #[.int .i64 x1, .int .i64 x2] 70 (0, 0))) (hne : gx ≠ g) :
    Calls Tryd.prog 31 #[.slice (some ⟨g, 0, none⟩) ts.length cap, .int .i64 i, .slice (some ⟨gx, 0, none⟩) 1 1] w (InsIs w B (.slice (some ⟨g, 0, none⟩) ts.length cap) (ts.take i ++ (x1, x2) :: ts.drop i)) := by
  have hov : ∀ lb cb, (callFunc 49 #[.slice (some ⟨gx, 0, none⟩) 1 1, .slice (some ⟨g, (i + 1) * 2, none⟩) lb cb]).run Tryd.prog w = .ok (.value (.bool false)) w := fun lb cb => by
    rw [run_callFunc_extern Tryd.func49 (by kernel_rfl) (by kernel_rfl) (by kernel_rfl) (e := Extern.SlicesOverlaps.overlaps #[59, 59] #[4]) (by kernel_rfl),
      Lib.run_overlaps_apart w 59 4 70 Tryd.underlying59 2 Tryd.sizeOf70 ⟨gx, 0, none⟩ ⟨g, (i + 1) * 2, none⟩ 1 1 lb cb hne 70 70 2 cur.size (by simp [World.shape?, hgx]) (by simp [World.shape?, hh]) (by omega) (frozen_of_row w _ _ _ _ hgx) (frozen_of_row w _ _ _ _ hgx)]
    rfl
  have hmx : cap ≤ 9223372036854775807 := by unfold maxLen at hm; omega
  have hdl : (tcells (ts.drop i)).length = (ts.length - i) * 2 := by rw [tcells_length, List.length_drop]
  obtain ⟨W1, hW1⟩ : ∃ W1, W1 = w.drew.setCells g ((i + 1) * 2) (tcells (ts.drop i)) := ⟨_, rfl⟩
  obtain ⟨cur1, hc1, hl1⟩ := heap_setCells g 70 (0, 0) (tcells (ts.drop i)) ((i + 1) * 2) w.drew cur hh (by rw [hdl]; omega)
  rw [← hW1] at hc1
  have hsz1 : cur1.size = cap * 2 := by
    rw [← Array.length_toList, hl1]
    simp only [List.length_append, List.length_take, List.length_drop, Array.length_toList, hdl]
    omega
  have hmin : Nat.min (ts.length + 1 - i) (ts.length - i) = ts.length - i := by simp only [Nat.min_def]; split <;> omega
  have hcp1 : ∀ ty dc sc, (Builtin.copy_ #[59, 59] ty #[.slice (some ⟨g, (i + 1) * 2, none⟩) (ts.length - i) dc, .slice (some ⟨g, i * 2, none⟩) (ts.length + 1 - i) sc]).run Tryd.prog w.drew = .ok (goInt ((ts.length - i : Nat) : Int)) W1 := fun ty dc sc => by
    rw [hW1]
    have h2 := copy_two w.drew 59 59 ty 70 g ((i + 1) * 2) (ts.length - i) dc ⟨g, i * 2, none⟩ (ts.length + 1 - i) sc (tcells (ts.drop i)) Tryd.underlying59 info70s (by rw [hdl, hmin])
      (fun j u hj => by rw [Addr.add_lit]; exact row_cells (w := w) hh hx _ u (by rwa [← tcells_drop, List.getElem?_drop] at hj))
      (fun j hj => by show (w.cell? _).isSome = true; rw [cell_of_row _ _ _ _ _ _ hh, Array.getElem?_eq_getElem (by omega)]; rfl) (fun j _ => frozen_of_row w _ _ _ _ hh) (tcells_one _)
    rw [hmin] at h2
    exact h2
  obtain ⟨W2, hW2⟩ : ∃ W2, W2 = W1.setCells g (i * 2) [.int .i64 x1, .int .i64 x2] := ⟨_, rfl⟩
  obtain ⟨cur2, hc2, hl2⟩ := heap_setCells g 70 (0, 0) [.int .i64 x1, .int .i64 x2] (i * 2) W1 cur1 hc1 (by simp; omega)
  rw [← hW2] at hc2
  have hgx1 : W1.heap[gx]? = some (.cells #[.int .i64 x1, .int .i64 x2] 70 (0, 0)) := by
    rw [hW1, (Off.setCells (fun k => k = g) g rfl _ _ w.drew).block gx (lt_heap hgx) hne]
    exact hgx
  have hcp2 : ∀ ty dc, (Builtin.copy_ #[59, 59] ty #[.slice (some ⟨g, i * 2, none⟩) (ts.length + 1 - i) dc, .slice (some ⟨gx, 0, none⟩) 1 1]).run Tryd.prog W1 = .ok (goInt 1) W2 := fun ty dc => by
    have h1 : Nat.min 1 (ts.length + 1 - i) = 1 := by simp only [Nat.min_def]; split <;> omega
    have h2 := copy_two W1 59 59 ty 70 g (i * 2) (ts.length + 1 - i) dc ⟨gx, 0, none⟩ 1 1 [.int .i64 x1, .int .i64 x2] Tryd.underlying59 info70s (by rw [h1]; rfl)
      (World.news_of_block hgx1)
      (fun j hj => by simp at hj; rw [cell_of_row _ _ _ _ _ _ hc1, Array.getElem?_eq_getElem (by omega)]; rfl) (fun j _ => frozen_of_row W1 _ _ _ _ hc1) (by simp [Value.oneCell'])
    rw [h1] at h2
    rw [hW2]
    exact h2
  have hz2 : ((i : Int) == (ts.length : Int)) = false := by simp; omega
  have hw1 : IntKind.i64.wrap ((i : Int) + 1) = (i : Int) + 1 := by rw [IntKind.wrap_i64]; omega
  have htn : ((i : Int) + 1).toNat = i + 1 := by omega
  have hb1 : (0 : Int) ≤ (i : Int) + 1 := by omega
  have hb2 : ¬ (cap = i + 1) := by omega
  have hb3 : (i : Int) ≤ (ts.length : Int) := by omega
  have hb4 : ¬ (cap = i) := by omega
  have hb5 : (i : Int) ≤ (ts.length : Int) + 1 := by omega
  have HX : Hid (w.heap[g]? = some (.cells cur 70 (0, 0)) ∧ cur1.toList = cur.toList.take ((i + 1) * 2) ++ tcells (ts.drop i) ++ cur.toList.drop ((i + 1) * 2 + (tcells (ts.drop i)).length) ∧ cur2.toList = cur1.toList.take (i * 2) ++ [.int .i64 x1, .int .i64 x2] ++ cur1.toList.drop (i * 2 + 2) ∧ W2.heap[g]? = some (.cells cur2 70 (0, 0)) ∧ cur1.size = cap * 2 ∧ cur.size = cap * 2 ∧ cur.toList.take (ts.length * 2) = tcells ts ∧ B ≤ g ∧ cap ≤ maxLen ∧ W1 = w.drew.setCells g ((i + 1) * 2) (tcells (ts.drop i)) ∧ W2 = W1.setCells g (i * 2) [.int .i64 x1, .int .i64 x2]) := Lib.hid ⟨hh, hl1, hl2, hc2, hsz1, hz, hx, hB, hm, hW1, hW2⟩
  clear hh hl1 hl2 hc2 hsz1 hz hx hB hm hW1 hW2 hc1 hgx hgx1 hdl hmin
  go_enter Tryd.func31, Tryd.ntmps31
  go_wp2_with (simp only [hov])
  go_region_law (refine step_copy_runI rfl _ _ 59 59 rfl _ _ (by simp [Act.eval, Act.put]) (by simp [Act.eval, Act.put]) (hcp1 _ _ _) ?_)
  go_wp2_with (at_builtin; refine wpList_copy_runI _ rfl _ _ 59 59 rfl _ _ rfl rfl (hcp2 _ _) ?_)
  go_ret
  obtain ⟨hh, hl1, hl2, hc2, hsz1, hz, hx, hB, hm, hW1, hW2⟩ := HX.out
  refine ⟨_, rfl, ⟨?_, .inr ⟨g, cap, cur2, ?_, hB, hc2, ?_, hm, ?_, ?_⟩⟩, ?_, fun k hk => .inl hk⟩
  · rw [tcells_length]
  · simp only [List.length_append, List.length_take, List.length_cons, List.length_drop]
    rw [show min i ts.length + (ts.length - i + 1) = ts.length + 1 by omega]
    rfl
  · simp only [List.length_append, List.length_take, List.length_cons, List.length_drop]; omega
  · rw [← Array.length_toList, hl2]
    simp only [List.length_append, List.length_take, List.length_drop, Array.length_toList, List.length_cons, List.length_nil]
    omega
  · exact ins_cells hi (by have := Array.length_toList (xs := cur); omega) hx hl1 hl2
  · have h1 : Off (fun k => k = g) w W1 := by rw [hW1]; exact (Off.refl (fun k => k = g) w).drew.trans (Off.setCells (fun k => k = g) g rfl _ _ _)
    have h2 : Off (fun k => k = g) W1 W2 := by rw [hW2]; exact Off.setCells (fun k => k = g) g rfl _ _ _
    exact (h1.trans h2).mono fun k _ s => by rw [s]; rfl

set_option maxRecDepth 100000 in
set_option maxHeartbeats 4000000 in
theorem insert_grow (B g cap gx : Nat) (cur : Array Value) (ts : List (Int × Int)) (i : Nat) (x1 x2 : Int) (w : World) (hBw : B ≤ w.heap.size) (hh : w.heap[g]? = some (.cells cur 70 (0, 0))) (hc : ts.length ≤ cap) (hc2 : cap < ts.length + 1) (hl : ts.length ≤ 100000) (hx : cur.toList.take (ts.length * 2) = tcells ts)
    (hi : i < ts.length) (hgx : w.heap[gx]? = some (.cells #[.int .i64 x1, .int .i64 x2] 70 (0, 0))) :
    Calls Tryd.prog 31 #[.slice (some ⟨g, 0, none⟩) ts.length cap, .int .i64 i, .slice (some ⟨gx, 0, none⟩) 1 1] w (InsIs w B (.slice (some ⟨g, 0, none⟩) ts.length cap) (ts.take i ++ (x1, x2) :: ts.drop i)) := by
  obtain ⟨i0, hi0, hz0, hz1, hz2⟩ := info70p
  have hgl := lt_heap hh
  have hxl := lt_heap hgx
  have htl : (tcells (ts.take i)).length = i * 2 := by rw [tcells_length, List.length_take]; omega
  have hdl : (tcells (ts.drop i)).length = (ts.length - i) * 2 := by rw [tcells_length, List.length_drop]
  have hold : (Builtin.firstCells i0.size i (.slice (some ⟨g, 0, none⟩) i cap)).run Tryd.prog w.drew = .ok (tcells (ts.take i)).toArray w.drew := by
    rw [hz1]
    exact run_firstCells_some w.drew 2 i ⟨g, 0, none⟩ i cap _ htl (fun j u hj => by
      rw [Addr.add_lit, Nat.zero_add]
      refine row_cells (w := w) hh hx _ u ?_
      rw [← tcells_take, List.getElem?_take] at hj
      split at hj
      · exact hj
      · cases hj)
  have hik : i + (ts.length + 1 - i) = ts.length + 1 := by omega
  have hkk : (ts.length : Int) + 1 - (i : Int) = ((ts.length + 1 - i : Nat) : Int) := by omega
  obtain ⟨G, hG⟩ : ∃ G, G = grownCap w (ts.length + 1) cap 70 := ⟨_, rfl⟩
  obtain ⟨W1, hW1⟩ : ∃ W1, W1 = w.drew.alloc (.cells ((tcells (ts.take i)).toArray ++ Builtin.zeroCells zT.cells (ts.length + 1 - i) ++ Builtin.zeroCells zT.cells (G - (ts.length + 1))) 70) := ⟨_, rfl⟩
  have hrz : ∀ ty, (Builtin.append_ #[59, 3] ty #[.slice (some ⟨g, 0, none⟩) i cap, .int .i64 ((ts.length : Int) + 1 - (i : Int))]).run Tryd.prog w = .ok (.slice (some ⟨w.heap.size, 0, none⟩) (ts.length + 1) G) W1 := fun ty => by
    have h := Lib.run_append_grow_zeros w 59 3 ty 70 i0 zT .i64 .i64 Tryd.underlying59 Tryd.underlying3 hi0 hz0 (some ⟨g, 0, none⟩) i cap _ hold (ts.length + 1 - i) (by omega) (by omega) (by omega) (by omega) (by rw [hz2]; omega) (by rw [hz2, hik]; exact growslice_fits hc2 (by omega))
    rw [hik] at h
    rw [hkk, hW1, hG]
    exact h
  have hGn : ts.length + 1 ≤ G := by rw [hG]; exact grownCap_ge w _ _ _
  have hGm : G ≤ maxLen := by rw [hG]; exact grownCap_le_maxLen w _ _ _ (by unfold maxLen; omega)
  have hG63 : G ≤ 9223372036854775807 := by unfold maxLen at hGm; omega
  obtain ⟨cur1, hc1, hl1⟩ : ∃ cur1, W1.heap[w.heap.size]? = some (.cells cur1 70 (0, 0)) ∧ cur1.toList = tcells (ts.take i) ++ tcells (List.replicate (ts.length + 1 - i) (0, 0)) ++ tcells (List.replicate (G - (ts.length + 1)) (0, 0)) :=
    ⟨_, by rw [hW1]; exact heap_alloc_new w.drew _, by simp only [Array.toList_append, zeros_two]⟩
  have hsz1 : cur1.size = G * 2 := by
    rw [← Array.length_toList, hl1]
    simp only [List.length_append, htl, tcells_length, List.length_replicate]
    omega
  have hk1 : Below w.heap.size w W1 := by rw [hW1]; exact (Below.refl w.heap.size w).drew.alloc (Nat.le_refl _) _
  have hgx1 : W1.heap[gx]? = some (.cells #[.int .i64 x1, .int .i64 x2] 70 (0, 0)) := (hk1.block gx hxl).trans hgx
  obtain ⟨W2, hW2⟩ : ∃ W2, W2 = W1.setCells w.heap.size (i * 2) [.int .i64 x1, .int .i64 x2] := ⟨_, rfl⟩
  obtain ⟨cur2, hc2', hl2⟩ := heap_setCells w.heap.size 70 (0, 0) [.int .i64 x1, .int .i64 x2] (i * 2) W1 cur1 hc1 (by simp; omega)
  rw [← hW2] at hc2'
  have hk2 : Off (fun k => k = w.heap.size) W1 W2 := by rw [hW2]; exact Off.setCells (fun k => k = w.heap.size) _ rfl _ _ _
  have hcpA : ∀ ty dc, (Builtin.copy_ #[59, 59] ty #[.slice (some ⟨w.heap.size, i * 2, none⟩) (ts.length + 1 - i) dc, .slice (some ⟨gx, 0, none⟩) 1 1]).run Tryd.prog W1 = .ok (goInt 1) W2 := fun ty dc => by
    have h1 : Nat.min 1 (ts.length + 1 - i) = 1 := by simp only [Nat.min_def]; split <;> omega
    have h2 := copy_two W1 59 59 ty 70 w.heap.size (i * 2) (ts.length + 1 - i) dc ⟨gx, 0, none⟩ 1 1 [.int .i64 x1, .int .i64 x2] Tryd.underlying59 info70s (by rw [h1]; rfl)
      (World.news_of_block hgx1)
      (fun j hj => by simp at hj; rw [cell_of_row _ _ _ _ _ _ hc1, Array.getElem?_eq_getElem (by omega)]; rfl) (fun j _ => frozen_of_row W1 _ _ _ _ hc1) (by simp [Value.oneCell'])
    rw [h1] at h2
    rw [hW2]
    exact h2
  have hsz2 : cur2.size = G * 2 := by
    rw [← Array.length_toList, hl2]
    simp only [List.length_append, List.length_take, List.length_drop, Array.length_toList, List.length_cons, List.length_nil]
    omega
  have hh2 : W2.heap[g]? = some (.cells cur 70 (0, 0)) := (hk2.block g (Nat.lt_of_lt_of_le hgl hk1.size) (by omega)).trans ((hk1.block g hgl).trans hh)
  obtain ⟨W3, hW3⟩ : ∃ W3, W3 = W2.drew.setCells w.heap.size ((i + 1) * 2) (tcells (ts.drop i)) := ⟨_, rfl⟩
  obtain ⟨cur3, hc3, hl3⟩ := heap_setCells w.heap.size 70 (0, 0) (tcells (ts.drop i)) ((i + 1) * 2) W2.drew cur2 hc2' (by rw [hdl]; omega)
  rw [← hW3] at hc3
  have hmin : Nat.min (ts.length - i) (ts.length + 1 - (i + 1)) = ts.length - i := by simp only [Nat.min_def]; split <;> omega
  have hcpB : ∀ ty dc sc, (Builtin.copy_ #[59, 59] ty #[.slice (some ⟨w.heap.size, (i + 1) * 2, none⟩) (ts.length + 1 - (i + 1)) dc, .slice (some ⟨g, i * 2, none⟩) (ts.length - i) sc]).run Tryd.prog W2.drew = .ok (goInt ((ts.length - i : Nat) : Int)) W3 := fun ty dc sc => by
    have h2 := copy_two W2.drew 59 59 ty 70 w.heap.size ((i + 1) * 2) (ts.length + 1 - (i + 1)) dc ⟨g, i * 2, none⟩ (ts.length - i) sc (tcells (ts.drop i)) Tryd.underlying59 info70s (by rw [hdl, hmin])
      (fun j u hj => by rw [Addr.add_lit]; exact row_cells (w := W2) hh2 hx _ u (by rwa [← tcells_drop, List.getElem?_drop] at hj))
      (fun j hj => by show (W2.cell? _).isSome = true; rw [cell_of_row _ _ _ _ _ _ hc2', Array.getElem?_eq_getElem (by omega)]; rfl) (fun j _ => frozen_of_row W2 _ _ _ _ hc2') (tcells_one _)
    rw [hmin] at h2
    rw [hW3]
    exact h2
  have hq1 : ((i : Int) == (ts.length : Int)) = false := by simp; omega
  have hq2 : (cap : Int) < (ts.length : Int) + 1 := by omega
  have hw1 : IntKind.i64.wrap ((i : Int) + 1) = (i : Int) + 1 := by rw [IntKind.wrap_i64]; omega
  have htn : ((i : Int) + 1).toNat = i + 1 := by omega
  have hb1 : (0 : Int) ≤ (i : Int) + 1 := by omega
  have hb2 : ¬ (G = i + 1) := by omega
  have hb3 : (i : Int) ≤ (ts.length : Int) := by omega
  have hb4 : ¬ (G = i) := by omega
  have hb5 : (i : Int) ≤ (ts.length : Int) + 1 := by omega
  have hb6 : ¬ (cap = i) := by omega
  have HR : Hid (InsIs w B (.slice (some ⟨g, 0, none⟩) ts.length cap) (ts.take i ++ (x1, x2) :: ts.drop i) (.returned (.slice (some ⟨w.heap.size, 0, none⟩) (ts.length + 1) G)) W3) := by
    have e0 : (ts.take i ++ (x1, x2) :: ts.drop i).length = ts.length + 1 := by
      simp only [List.length_append, List.length_take, List.length_cons, List.length_drop]; omega
    refine Lib.hid ⟨_, rfl, ⟨?_, .inr ⟨w.heap.size, G, cur3, ?_, hBw, hc3, ?_, hGm, ?_, ?_⟩⟩, ?_, fun k hk => .inr ?_⟩
    · rw [tcells_length]
    · rw [e0]
    · rw [e0]; exact hGn
    · rw [← Array.length_toList, hl3]
      simp only [List.length_append, List.length_take, List.length_drop, Array.length_toList, hdl]
      omega
    · rw [e0, hl3, hl2, hl1]
      exact grow_cells hi
    · have h3 : Off (fun k => k = w.heap.size) W2 W3 := by rw [hW3]; exact (Off.refl (fun k => k = w.heap.size) W2).drew.trans (Off.setCells (fun k => k = w.heap.size) _ rfl _ _ _)
      have h4 := (Off.of_below (fun k => k = w.heap.size) hk1).trans (hk2.trans h3)
      exact h4.mono fun k hk s => by omega
    · have : w.heap.size = k := by simpa [Value.ownBlock] using hk
      omega
  clear hW1 hW2 hW3 hc1 hc2' hc3 hl1 hl2 hl3 hsz1 hsz2 hh hh2 hgx hgx1 hk1 hk2 hold hik hkk hG hGm hx htl hdl hmin hBw hgl hxl hc2
  go_enter Tryd.func31, Tryd.ntmps31
  go_wp2_with (first
    | (at_builtin; refine Lib.wpList_append_run _ rfl _ _ _ _ rfl _ _ rfl rfl _ _ (hrz _) ?_)
    | (at_builtin; refine wpList_copy_runI _ rfl _ _ 59 59 rfl _ _ rfl rfl (hcpA _ _) ?_))
  go_region_law (refine step_copy_runI rfl _ _ 59 59 rfl (.slice (some ⟨w.heap.size, (i + 1) * 2, none⟩) (ts.length + 1 - (i + 1)) (G - (i + 1))) (.slice (some ⟨g, i * 2, none⟩) (ts.length - i) (cap - i)) (by simp [Act.eval, Act.put]) (by simp [Act.eval, Act.put]) (hcpB 3 (G - (i + 1)) (cap - i)) ?_)
  go_wp2
  go_ret
  exact HR.out

/-- slices.Insert of one timer. -/
theorem insert_any (B gx : Nat) (v : Value) (ts : List (Int × Int)) (i : Nat) (x1 x2 : Int) (w : World) (h : w.ownsRow B 70 2 v ts.length (tcells ts)) (hi : i ≤ ts.length) (hgx : w.heap[gx]? = some (.cells #[.int .i64 x1, .int .i64 x2] 70 (0, 0))) (hne : v.ownBlock ≠ some gx) (hl : ts.length ≤ 100000) (hB : B ≤ w.heap.size) :
    Calls Tryd.prog 31 #[v, .int .i64 i, .slice (some ⟨gx, 0, none⟩) 1 1] w (InsIs w B v (ts.take i ++ (x1, x2) :: ts.drop i)) := by
  rcases Nat.lt_or_ge i ts.length with hlt | hge
  · rcases h.2 with ⟨hv, h0⟩ | ⟨g, cap, cur, hv, hBg, hh, hc, hm, hz, hx⟩
    · omega
    · subst hv
      have hne' : gx ≠ g := fun e => hne (by rw [e]; rfl)
      rcases Nat.lt_or_ge ts.length cap with h1 | h1
      · exact insert_room B g cap gx cur ts i x1 x2 w hBg hh h1 hm hz hx hlt hgx hne'
      · exact insert_grow B g cap gx cur ts i x1 x2 w hB hh hc (by omega) hl hx hlt hgx
  · have e : i = ts.length := by omega
    subst e
    rw [List.take_length, List.drop_length]
    exact insert_end B gx v ts x1 x2 w h hgx hl hB
end Go.Proofs.YtfefkkojdcipcaaDoor
