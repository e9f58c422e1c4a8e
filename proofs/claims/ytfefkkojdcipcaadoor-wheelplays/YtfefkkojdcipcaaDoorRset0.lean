/- append onto the first timers of a row of the document's; an error of the document's. -/
import Derived.Test.YtfefkkojdcipcaaDoorRcan
namespace Go.Proofs.YtfefkkojdcipcaaDoor
open Go.RowKit Go.Extern.Stop Go.Stop Go.Extern

theorem keep_on {w1 w2 : World} (hb : Below w1.heap.size w1 w2) {k : Nat} {o : Obj} (hk : w1.heap[k]? = some o) : w2.heap[k]? = some o := (hb.block k (lt_heap hk)).trans hk
theorem cell2 {w : World} {k : Nat} {a b : Value} {t : TypeId} (h : w.heap[k]? = some (.cells #[a, b] t (0, 0))) : w.cell? ⟨k, 0, none⟩ = some a ∧ w.cell? ⟨k, 1, none⟩ = some b ∧ w.frozen? ⟨k, 0, none⟩ = false ∧ w.frozen? ⟨k, 1, none⟩ = false :=
  ⟨by rw [cell_of_row _ _ _ _ _ _ h]; rfl, by rw [cell_of_row _ _ _ _ _ _ h]; rfl, frozen_of_row _ _ _ _ _ h, frozen_of_row _ _ _ _ _ h⟩
theorem stepsOwn_set {w : World} {v : Value} {s : ByteArray} {p : Int} (h : StepsOwn w v [(s, p)]) {rb j : Nat} {u : Value} {n : Int} (hr : w.cell? ⟨rb, 0, none⟩ = some (.int .i64 n)) : StepsOwn (w.setCell ⟨rb, j, none⟩ u) v [(s, p)] := by
  obtain ⟨ao, cap, hv, hc⟩ := h
  refine ⟨ao, cap, hv, fun i hi => ?_⟩
  have hi0 : i = 0 := by simpa using hi
  subst hi0
  obtain ⟨g, ha, hlt, h0, h1⟩ := hc 0 (by simp)
  have hne : g ≠ rb := fun e => by
    subst e
    simp only [Nat.zero_mul] at h0
    rw [hr] at h0
    simp at h0
  refine ⟨g, ha, by simpa [World.setCell] using hlt, ?_, ?_⟩
  · rw [World.cell?_setCell_other _ _ _ _ (by intro e; cases e; exact hne rfl)]; exact h0
  · rw [World.cell?_setCell_other _ _ _ _ (by intro e; cases e; exact hne rfl)]; exact h1
theorem upon_cells {c c' : List Value} {ts us : List (Int × Int)} {off k : Nat} (hk : k ≤ ts.length) (hx : (c.drop off).take (ts.length * 2) = tcells ts) (ho : off + k * 2 ≤ c.length)
    (h : ∃ z, c' = c.take (off + k * 2) ++ tcells us ++ z) : (c'.drop off).take ((k + us.length) * 2) = tcells (ts.take k ++ us) := by
  obtain ⟨z, rfl⟩ := h
  have e1 : (c.take (off + k * 2)).drop off = tcells (ts.take k) := by
    rw [List.drop_take, show off + k * 2 - off = k * 2 by omega, ← tcells_take, ← hx, List.take_take, Nat.min_eq_left (by omega)]
  have l1 : (tcells (ts.take k) ++ tcells us).length = (k + us.length) * 2 := by
    rw [List.length_append, tcells_length, tcells_length, List.length_take]; omega
  rw [List.append_assoc, List.drop_append_of_le_length (by rw [List.length_take]; omega), e1, ← List.append_assoc, List.take_left' l1, tcells_append]
theorem app_upon (W : World) (B : Nat) (ao : Option Addr) (cap k : Nat) (ts us : List (Int × Int)) (hk : k ≤ ts.length) (hrow : RRow W B (.slice ao ts.length cap) ts) (hcap : ts.length ≤ cap) (B2 g2 c2 : Nat) (hsrc : W.ownsRow B2 75 2 (.slice (some ⟨g2, 0, none⟩) us.length c2) us.length (tcells us)) (hu : 0 < us.length) (hB : B ≤ W.heap.size) (hl : ts.length + us.length ≤ 100000) :
    ∃ v' w', (Builtin.append_ #[27, 27] 27 #[.slice ao k cap, .slice (some ⟨g2, 0, none⟩) us.length c2]).run Tryd.prog W = .ok v' w' ∧ RRow w' B v' (ts.take k ++ us) ∧ Off (fun q => (Value.slice ao ts.length cap).ownBlock = some q) W w' ∧ ∀ q, v'.ownBlock = some q → (Value.slice ao ts.length cap).ownBlock = some q ∨ W.heap.size ≤ q := by
  obtain ⟨i0, hi0, hz0, hz1, hz2⟩ := info75p
  have hnews : ∀ j u, (tcells us)[j]? = some u → W.cell? ((⟨g2, 0, none⟩ : Addr).add j) = some u := fun j u hj => by
    have hlt : j < us.length * 2 := by
      rcases Nat.lt_or_ge j (us.length * 2) with h | h
      · exact h
      · rw [List.getElem?_eq_none (by rw [tcells_length]; exact h)] at hj; cases hj
    rw [Addr.add_lit, Nat.zero_add, hsrc.cellAt j hlt]
    exact hj
  rcases hrow with ⟨hv, h0⟩ | ⟨g, off, cap', cur, hv, hBg, hh, _, hm, hz, hx⟩
  · simp only [Value.slice.injEq] at hv
    obtain ⟨rfl, _, rfl⟩ := hv
    subst h0
    have hk0 : k = 0 := by simpa using hk
    subst hk0
    obtain ⟨v', w', h1, h2, h3, _, h5⟩ := run_append_own_at (P := Tryd.prog) W B 27 27 75 i0 zT 2 16 Tryd.underlying27 hi0 hz0 hz1 hz2 rfl (by omega) (.slice none 0 0) 0 [] (World.ownsRow_nil _ _ _ _) ⟨g2, 0, none⟩ us.length c2 (tcells us) (tcells_length us) hnews (tcells_one us) (by unfold maxLen; omega) (by omega) hB
    refine ⟨v', w', h1, rrow_of (B' := B) (n := 0 + us.length) (by simpa using h2) (by simp) (Nat.le_refl _), Off.of_grown h3, fun q hq => ?_⟩
    right
    rcases h5 with h5 | h5
    · rw [h5] at hq; cases hq
    · rw [h5] at hq
      have : W.heap.size = q := by simpa using hq
      omega
  · simp only [Value.slice.injEq] at hv
    obtain ⟨rfl, _, rfl⟩ := hv
    have hkl : (tcells (ts.take k)).length = k * 2 := by rw [tcells_length, List.length_take]; omega
    rcases Nat.lt_or_ge cap (k + us.length) with hroom | hroom
    · have holds : ∀ j u, (tcells (ts.take k))[j]? = some u → W.cell? ((⟨g, off, none⟩ : Addr).add j) = some u := fun j u hj => by
        rw [Addr.add_lit, cell_of_row _ _ _ _ _ _ hh, ← Array.getElem?_toList]
        rw [← tcells_take, List.getElem?_take] at hj
        split at hj
        · rw [← hx, List.getElem?_take] at hj
          split at hj
          · rwa [List.getElem?_drop] at hj
          · cases hj
        · cases hj
      have hrun := run_append_grow (P := Tryd.prog) W 27 27 75 i0 zT Tryd.underlying27 hi0 hz0 ⟨g, off, none⟩ k cap (tcells (ts.take k)) (by rw [hz1]; exact hkl) holds ⟨g2, 0, none⟩ us.length c2 (tcells us) (by rw [hz1]; exact tcells_length us) hnews hroom (by omega) (by rw [hz2]; exact growslice_fits hroom (by omega))
      have hG := grownCap_ge W (k + us.length) cap 75
      have hGm := grownCap_le_maxLen W (k + us.length) cap 75 (by unfold maxLen; omega)
      refine ⟨_, _, hrun, .inr ⟨W.heap.size, 0, grownCap W (k + us.length) cap 75, _, ?_, hB, heap_alloc_new W.drew _, ?_, by unfold maxLen at hGm; omega, fun _ => ?_, ?_⟩, ?_, fun q hq => .inr ?_⟩
      · rw [List.length_append, List.length_take, Nat.min_eq_left hk]
      · rw [List.length_append, List.length_take, Nat.min_eq_left hk]; exact hG
      · rw [← Array.length_toList]
        simp only [Array.toList_append, List.length_append, zeros_two, tcells_length, hkl, List.length_replicate]
        omega
      · simp only [Array.toList_append, List.drop_zero]
        rw [show (ts.take k ++ us).length * 2 = (tcells (ts.take k) ++ tcells us).length by rw [List.length_append, List.length_append, hkl, tcells_length, List.length_take]; omega, List.take_left, tcells_append]
      · exact (Off.of_below _ ((Below.refl W.heap.size W).drew.alloc (Nat.le_refl _) _))
      · have : W.heap.size = q := by simpa [Value.ownBlock] using hq
        omega
    · have hz' := hz (by omega)
      have hrun := run_append_room_cells (P := Tryd.prog) W 27 27 75 i0 Tryd.underlying27 hi0 g off k cap ⟨g2, 0, none⟩ us.length c2 (tcells us) (by rw [hz1]; exact tcells_length us) hnews (tcells_one us) hroom
        (fun j hj => by rw [tcells_length] at hj; rw [hz1, cell_of_row _ _ _ _ _ _ hh, Array.getElem?_eq_getElem (by omega)]; rfl) (fun j _ => frozen_of_row W _ _ _ _ hh)
      rw [hz1] at hrun
      obtain ⟨cur', hc', hl'⟩ := heap_setCells g 75 (0, 0) (tcells us) (off + k * 2) W cur hh (by rw [tcells_length]; omega)
      have hsz : cur'.size = cur.size := by
        have h1 := congrArg List.length hl'
        simp only [List.length_append, List.length_take, List.length_drop, Array.length_toList, tcells_length] at h1
        omega
      refine ⟨_, _, hrun, .inr ⟨g, off, cap, cur', ?_, hBg, hc', ?_, hm, fun _ => by omega, ?_⟩, (Off.setCells (fun q => q = g) g rfl _ _ _).mono (fun q _ s => by rw [s]; rfl), fun q hq => .inl hq⟩
      · rw [List.length_append, List.length_take, Nat.min_eq_left hk]
      · rw [List.length_append, List.length_take, Nat.min_eq_left hk]; exact hroom
      · rw [List.length_append, List.length_take, Nat.min_eq_left hk]
        exact upon_cells hk hx (by have := Array.length_toList (xs := cur); omega) ⟨_, hl'⟩
set_option maxRecDepth 100000 in
set_option maxHeartbeats 1000000 in
theorem rset_bad (p : Nat) (id after : Int) (w : World) (hbad : ¬ inR id after) :
    Calls Tryd.prog 13 #[.pointer (some ⟨p, 0, none⟩), .int .i64 id, .int .i64 after] w fun e w' => ∃ g, e = .returned (.agg #[.int .i64 1, .slice (some ⟨g, 0, none⟩) 1 1]) ∧ StepsOwn w' (.slice (some ⟨g, 0, none⟩) 1 1) [(sWheel, id)] ∧ Below w.heap.size w w' := by
  have HB0 : Hid (Below w.heap.size w (w.alloc (.cells #[.int .i64 0, .slice none 0 0] 39))) := Lib.hid (below_new _ _)
  have HRB : Hid ((w.alloc (.cells #[.int .i64 0, .slice none 0 0] 39)).heap[w.heap.size]? = some (.cells #[.int .i64 0, .slice none 0 0] 39 (0, 0))) := Lib.hid (heap_alloc_new w _)
  have hcase : id < 0 ∨ (0 ≤ id ∧ 1000 < id) ∨ ((0 ≤ id ∧ id ≤ 1000) ∧ after < 0) ∨ ((0 ≤ id ∧ id ≤ 1000) ∧ 0 ≤ after ∧ 1099511627776 < after) := by unfold inR at hbad; omega
  clear hbad
  rcases hcase with h0 | ⟨h0, h1⟩ | ⟨⟨h0, h1⟩, h2⟩ | ⟨⟨h0, h1⟩, h2, h3⟩
  all_goals
    go_enter Tryd.func13, Tryd.ntmps13
    go_wp2_with fail
    generalize w.alloc (.cells #[.int .i64 0, .slice none 0 0] 39) = wa at *
    refine (yat_any sWheel id 1 wa).mono ?_
    rintro e w1 ⟨⟨g, rfl, hst⟩, hb⟩
    have HB1 := Lib.hid hb
    have hres := keep_on hb HRB.out
    obtain ⟨r0, r1, g0, g1⟩ := cell2 hres
    have e0 : ((w1.setCell ⟨w.heap.size, 0, none⟩ (.int .i64 1)).setCell ⟨w.heap.size, 1, none⟩ (.slice (some ⟨g, 0, none⟩) 1 1)).cell? ⟨w.heap.size, 0, none⟩ = some (.int .i64 1) := by
      rw [World.cell?_setCell_other _ _ _ _ (by simp)]
      exact World.cell?_setCell_same _ _ _ r0
    have e1 : ((w1.setCell ⟨w.heap.size, 0, none⟩ (.int .i64 1)).setCell ⟨w.heap.size, 1, none⟩ (.slice (some ⟨g, 0, none⟩) 1 1)).cell? ⟨w.heap.size, 1, none⟩ = some (.slice (some ⟨g, 0, none⟩) 1 1) :=
      World.cell?_setCell_same (u := .slice none 0 0) _ _ _ (by rw [World.cell?_setCell_other _ _ _ _ (by simp)]; exact r1)
    have HS2 := Lib.hid (stepsOwn_set (j := 1) (u := .slice (some ⟨g, 0, none⟩) 1 1) (n := 1) (stepsOwn_set (j := 0) (u := .int .i64 1) hst r0) (World.cell?_setCell_same _ _ _ r0))
    clear hst hb hres
    go_wp2
    refine bodyPost_ret (v := .agg #[.int .i64 1, .slice (some ⟨g, 0, none⟩) 1 1]) ?_ rfl ⟨g, rfl, HS2.out, ((HB0.out.trans (HB1.out.mono HB0.out.size)).setCell (Nat.le_refl _) _).setCell (Nat.le_refl _) _⟩
    simp [results, Tryd.results13, go_sem, e0, e1]
end Go.Proofs.YtfefkkojdcipcaaDoor
