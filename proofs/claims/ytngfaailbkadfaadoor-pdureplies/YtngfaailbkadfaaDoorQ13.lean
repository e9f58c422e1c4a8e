/- yardref.CopyInts, yardref7.Same, yardlaw7.Plain. -/
import Derived.Test.YtngfaailbkadfaaDoorQ11
import Derived.Test.YtngfaailbkadfaaDoorPar
import Derived.Lib.AppendZeros
namespace Go.Proofs.YtngfaailbkadfaaDoor
open Go.RowKit Go.Extern.Stop Go.Stop Go.Extern

/-- append of nothing to an empty row that was made for it. -/
theorem append_nil3 (W : World) (g c : Nat) : (Builtin.append_ #[22, 22] 22 #[.slice (some ⟨g, 0, none⟩) 0 0, .slice none 0 c]).run Tryd.prog W = .ok (.slice (some ⟨g, 0, none⟩) 0 0) W := by
  obtain ⟨i0, hi0, _, _, _⟩ := info_parts info3p
  simp [Builtin.append_, run_underlying Tryd.underlying22, sizeOf, typeInfo, hi0, Builtin.lenOf, Builtin.firstCells, storeCells]
theorem made_empty3 (w : World) : (w.alloc (.cells #[] 3)).ownsRow w.heap.size 3 1 (.slice (some ⟨w.heap.size, 0, none⟩) 0 0) 0 [] := World.ownsRow_made w #[] 0 (Nat.le_refl _) (Nat.zero_le _) (by simp)
theorem ints_news {w : World} {l : List Int} {a : Addr} (h : ∀ i (h : i < l.length), ∃ b off, some a = some (⟨b, off, none⟩ : Addr) ∧ w.cell? ⟨b, off + i, none⟩ = some (.int .i64 l[i])) :
    ∀ j u, (icells l)[j]? = some u → w.cell? (a.add j) = some u := fun j u hj => by
  have hlt : j < l.length := by
    rcases Nat.lt_or_ge j l.length with h' | h'
    · exact h'
    · rw [List.getElem?_eq_none (by rw [icells_length]; exact h')] at hj; cases hj
  obtain ⟨b, off, e, hc⟩ := h j hlt
  cases e
  rw [icells_get l j hlt] at hj
  rw [← hj, ← hc, add_at]
theorem icells_one (l : List Int) : ∀ u ∈ icells l, u.oneCell' = true := fun u h => by
  obtain ⟨x, _, rfl⟩ := List.mem_map.1 h
  rfl
set_option maxRecDepth 100000 in
set_option maxHeartbeats 1000000 in
/-- yardref.CopyInts. -/
theorem copyi_any (v : Value) (l : List Int) (w : World) (hv : IntsAt w v l) (hl : l.length ≤ 1000000) : Calls Tryd.prog 6 #[v] w (RowI w l) := by
  obtain ⟨i0, hi0, hz0, hz1, hz2⟩ := info_parts info3p
  obtain ⟨ao, cap, rfl, hc⟩ := hv
  cases ao with
  | none =>
    have h0 : l = [] := by
      cases l with
      | nil => rfl
      | cons x l => obtain ⟨b, off, e, _⟩ := hc 0 (by simp); cases e
    subst h0
    have ap := append_nil3 (w.alloc (.cells #[] 3)) w.heap.size cap
    clear hc hl
    go_enter Tryd.func6, Tryd.ntmps6
    go_wp2
    go_ret
    exact ⟨_, rfl, made_empty3 w, (Below.refl _ w).alloc (Nat.le_refl _) _⟩
  | some a =>
    have HC := Lib.hid (ints_news hc)
    clear hc
    go_enter Tryd.func6, Tryd.ntmps6
    go_wp2_with (at_builtin; refine wpList_append_own _ rfl _ _ 22 rfl w.heap.size 3 i0 _ 1 8 Tryd.underlying22 hi0 hz0 hz1 hz2 rfl (by omega) _ _ _ rfl (made_empty3 w) a l.length cap (icells l) rfl ?qc1 ?qc2 ?qc3 ?qc4 ?qc5 ?qc6 ?_)
    case qc1 => rw [icells_length]; omega
    case qc2 => exact fun j u hj => Lib.cell?_alloc_some _ (HC.out j u hj)
    case qc3 => exact icells_one l
    case qc4 => unfold maxLen; omega
    case qc5 => omega
    case qc6 => simp
    intro v' w1 hown hgrow hnil
    have HO := Lib.hid hown
    have HG := Lib.hid hgrow
    clear hown hgrow hnil
    go_wp2
    go_ret
    exact ⟨v', rfl, by simpa using HO.out, below_grown HG.out⟩

def sameB (r q : Rq) : Bool := decide (r.f = q.f) && decide (r.s = q.s) && decide (r.c = q.c) && (r.vs == q.vs)
set_option maxRecDepth 100000 in
set_option maxHeartbeats 4000000 in
theorem rsame_any (r q : Rq) (u v : Value) (w : World) (hu : IntsAt w u r.vs) (hv : IntsAt w v q.vs) (hl : r.vs.length ≤ 100000) : Calls Tryd.prog 16 #[r.val u, q.val v] w fun e w' => e = .returned (.bool (sameB r q)) ∧ Below w.heap.size w w' := by
  obtain ⟨f, s, c, us⟩ := r
  obtain ⟨f2, s2, c2, vs⟩ := q
  unfold Rq.val
  dsimp only at hu hv hl ⊢
  have HU := Lib.hid hu
  have HV := Lib.hid hv
  have HL := Lib.hid hl
  have HM : Hid (sameB ⟨f, s, c, us⟩ ⟨f2, s2, c2, vs⟩ = (decide (f = f2) && decide (s = s2) && decide (c = c2) && (us == vs))) := Lib.hid rfl
  obtain ⟨wx, hwx⟩ : ∃ wx, wx = (w.alloc (.cells #[.int .i64 f, .int .i64 s, .int .i64 c, u] 38)).alloc (.cells #[.int .i64 f2, .int .i64 s2, .int .i64 c2, v] 38) := ⟨_, rfl⟩
  have X0 : Hid (Below w.heap.size w wx) := Lib.hid (by rw [hwx]; exact (below_new w _).trans ((below_new (w.alloc _) _).mono (by simp)))
  clear hu hv hl
  by_cases h1 : f = f2
  · subst h1
    by_cases h2 : s = s2
    · subst h2
      by_cases h3 : c = c2
      · subst h3
        go_enter Tryd.func16, Tryd.ntmps16
        go_wp2_with fail
        rw [← hwx]
        clear hwx
        refine (ints_any u v us vs wx (HU.out.on X0.out) (HV.out.on X0.out) (by have := HL.out; omega)).mono ?_
        rintro e w4 ⟨rfl, hb4⟩
        have HB4 := Lib.hid (X0.out.trans (hb4.mono X0.out.size))
        clear hb4
        go_wp2
        go_ret
        refine ⟨?_, HB4.out⟩
        rw [HM.out]
        simp
      · have n3 : (c == c2) = false := by simpa using h3
        have HN : Hid (sameB ⟨f, s, c, us⟩ ⟨f, s, c2, vs⟩ = false) := Lib.hid (by rw [HM.out]; simp [h3])
        clear h3
        go_enter Tryd.func16, Tryd.ntmps16
        go_wp2
        go_ret
        rw [HN.out]
        refine ⟨rfl, ?_⟩
        rw [← hwx]
        exact X0.out
    · have n2 : (s == s2) = false := by simpa using h2
      have HN : Hid (sameB ⟨f, s, c, us⟩ ⟨f, s2, c2, vs⟩ = false) := Lib.hid (by rw [HM.out]; simp [h2])
      clear h2
      go_enter Tryd.func16, Tryd.ntmps16
      go_wp2
      go_ret
      rw [HN.out]
      refine ⟨rfl, ?_⟩
      rw [← hwx]
      exact X0.out
  · have n1 : (f == f2) = false := by simpa using h1
    have HN : Hid (sameB ⟨f, s, c, us⟩ ⟨f2, s2, c2, vs⟩ = false) := Lib.hid (by rw [HM.out]; simp [h1])
    clear h1
    go_enter Tryd.func16, Tryd.ntmps16
    go_wp2
    go_ret
    rw [HN.out]
    refine ⟨rfl, ?_⟩
    rw [← hwx]
    exact X0.out


theorem fin4q_box {w4 : World} {k : Nat} {f0 s0 c0 : Int} {V0 : Value} (h : BoxQ w4 k f0 s0 c0 V0) (f s c : Int) (V : Value) : BoxQ (fin4 w4 k f s c V) k f s c V := by
  unfold BoxQ fin4
  rw [heap_set _ _ _ _ _ _ _ (heap_set _ _ _ _ _ _ _ (heap_set _ _ _ _ _ _ _ (heap_set _ _ _ _ _ _ _ h)))]
  rfl
theorem BoxQ.frozen {w : World} {k : Nat} {f s c : Int} {v : Value} (h : BoxQ w k f s c v) : ∀ o, w.frozen? ⟨k, o, none⟩ = false := fun _ => frozen_of_row _ _ _ _ _ h
theorem fin4q_below {w w4 : World} {k : Nat} (h : Below w.heap.size w w4) (hk : w.heap.size ≤ k) (f s c : Int) (V : Value) : Below w.heap.size w (fin4 w4 k f s c V) := (((h.setCell hk _).setCell hk _).setCell hk _).setCell hk _

set_option maxRecDepth 100000 in
set_option maxHeartbeats 4000000 in
theorem plain_any (f s c : Int) (ao : Option Addr) (n cap : Nat) (w : World) : Calls Tryd.prog 9 #[.agg #[.int .i64 f, .int .i64 s, .int .i64 c, .slice ao n cap]] w fun e w' => e = .returned (.agg #[.int .i64 f, .int .i64 s, .int .i64 c, .slice ao n cap]) ∧ Below w.heap.size w w' := by
  obtain ⟨wx, hwx⟩ : ∃ wx, wx = (w.alloc (.cells #[.int .i64 f, .int .i64 s, .int .i64 c, .slice ao n cap] 24)).alloc (.cells #[.int .i64 f, .int .i64 s, .int .i64 c, .slice ao n cap] 38) := ⟨_, rfl⟩
  have X0 : Hid (Below w.heap.size w wx) := Lib.hid (by rw [hwx]; exact two_belowW _ _ _)
  have Q0 : BoxQ wx (w.heap.size + 1) f s c (.slice ao n cap) := by
    rw [hwx]
    have h : (w.alloc (.cells #[.int .i64 f, .int .i64 s, .int .i64 c, .slice ao n cap] 24)).heap.size = w.heap.size + 1 := by simp
    rw [← h]
    exact heap_alloc_new _ _
  obtain ⟨d0, d1, d2, d3⟩ := Q0.cells
  clear Q0
  go_enter Tryd.func9, Tryd.ntmps9
  go_wp2
  rw [← hwx]
  refine bodyPost_ret (v := .agg #[.int .i64 f, .int .i64 s, .int .i64 c, .slice ao n cap]) ?_ rfl ⟨rfl, X0.out⟩
  simp [results, Tryd.results9, go_sem, d0, d1, d2, d3]

end Go.Proofs.YtngfaailbkadfaaDoor
