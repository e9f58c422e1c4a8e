/- yardref.At, CopyInts, Ints: the document's helpers; memory that was there stands. -/
import Derived.Test.YtcbiomcbkmdhaaaDoorFirst
import Derived.Lib.AppendZeros
import Derived.Deep.OwnRows
namespace Go.Proofs.YtcbiomcbkmdhaaaDoor
open Go.RowKit Go.Extern.Stop Go.Stop Go.Extern

/-- Two rows of different elements share no block. -/
theorem rows_apart {w : World} {B B2 : Nat} {e e2 : TypeId} {size size2 : Nat} {v v2 : Value} {n n2 : Nat} {xs xs2 : List Value} (h : w.ownsRow B e size v n xs) (h2 : w.ownsRow B2 e2 size2 v2 n2 xs2) (ht : e2 ≠ e) (k : Nat) (hk : v.ownBlock = some k) : v2.ownBlock ≠ some k := fun e' => by
  rcases h2.2 with ⟨hv, _⟩ | ⟨g, cap, cur, hv, _, hh, _⟩
  · rw [hv] at e'; cases e'
  · rw [hv] at e'
    have : g = k := by simpa [Value.ownBlock] using e'
    subst this
    exact row_no h hh ht hk
theorem info3p : ∃ i0, Tryd.prog.info? 3 = some i0 ∧ i0.zero = some (.int .i64 0) ∧ i0.size = 1 ∧ i0.bytes = 8 := by
  have : (Tryd.prog.info? 3).map (fun i => (i.zero, i.size, i.bytes)) = some (some (.int .i64 0), 1, 8) := by kernel_rfl
  cases h : Tryd.prog.info? 3 with
  | none => rw [h] at this; cases this
  | some i0 => rw [h] at this; simp at this; exact ⟨i0, rfl, this.1, this.2.1, this.2.2⟩
/-- An Err's box. -/
def BoxE (w : World) (k : Nat) (c : Int) (v : Value) : Prop := w.heap[k]? = some (.cells #[.int .i64 c, v] 35 (0, 0))
theorem BoxE.on {w w' : World} {k : Nat} {c : Int} {v : Value} (h : BoxE w k c v) (hb : Below w.heap.size w w') : BoxE w' k c v := (hb.block k (lt_heap h)).trans h
theorem BoxE.cells {w : World} {k : Nat} {c : Int} {v : Value} (h : BoxE w k c v) : w.cell? ⟨k, 0, none⟩ = some (.int .i64 c) ∧ w.cell? ⟨k, 1, none⟩ = some v ∧ w.frozen? ⟨k, 0, none⟩ = false ∧ w.frozen? ⟨k, 1, none⟩ = false :=
  ⟨by rw [cell_of_row _ _ _ _ _ _ h]; rfl, by rw [cell_of_row _ _ _ _ _ _ h]; rfl, frozen_of_row _ _ _ _ _ h, frozen_of_row _ _ _ _ _ h⟩
def fin2 (w4 : World) (k : Nat) (c : Int) (V : Value) : World := (w4.setCell ⟨k, 0, none⟩ (.int .i64 c)).setCell ⟨k, 1, none⟩ V
theorem fin2_below {w w4 : World} (h : Below w.heap.size w w4) (k : Nat) (hk : w.heap.size ≤ k) (c : Int) (V : Value) : Below w.heap.size w (fin2 w4 k c V) := (h.setCell hk _).setCell hk _
theorem fin2_box {w4 : World} {k : Nat} {c0 : Int} {V0 : Value} (h : BoxE w4 k c0 V0) (c : Int) (V : Value) : BoxE (fin2 w4 k c V) k c V := by
  unfold BoxE fin2
  rw [heap_set _ _ _ _ _ _ _ (heap_set _ _ _ _ _ _ _ h)]
  rfl
theorem fin2_off (w4 : World) (k : Nat) (c : Int) (V : Value) : Off (fun j => j = k) w4 (fin2 w4 k c V) := by
  unfold fin2
  exact Off.trans (Off.set (fun j => j = k) w4 ⟨k, 0, none⟩ _ rfl) (Off.set (fun j => j = k) _ ⟨k, 1, none⟩ _ rfl)
/-- append of nothing to an empty row that was made for it. -/
theorem append_nil3 (W : World) (g c : Nat) : (Builtin.append_ #[22, 22] 22 #[.slice (some ⟨g, 0, none⟩) 0 0, .slice none 0 c]).run Tryd.prog W = .ok (.slice (some ⟨g, 0, none⟩) 0 0) W := by
  obtain ⟨i0, hi0, _, _, _⟩ := info3p
  simp [Builtin.append_, run_underlying Tryd.underlying22, sizeOf, typeInfo, hi0, Builtin.lenOf, Builtin.firstCells, storeCells]
theorem made_empty3 (w : World) : (w.alloc (.cells #[] 3)).ownsRow w.heap.size 3 1 (.slice (some ⟨w.heap.size, 0, none⟩) 0 0) 0 [] := World.ownsRow_made w #[] 0 (Nat.le_refl _) (Nat.zero_le _) (by simp)
/-- A new row of numbers of the call's own. -/
def RowI (w : World) (l : List Int) (e : Ending) (w' : World) : Prop := ∃ v, e = .returned v ∧ w'.ownsRow w.heap.size 3 1 v l.length (icells l) ∧ Below w.heap.size w w'
theorem ints_news {w : World} {l : List Int} {a : Addr} (h : ∀ i (h : i < l.length), ∃ b off, some a = some (⟨b, off, none⟩ : Addr) ∧ w.cell? ⟨b, off + i, none⟩ = some (.int .i64 l[i])) :
    ∀ j u, (icells l)[j]? = some u → w.cell? (a.add j) = some u := fun j u hj => by
  have hlt : j < l.length := by
    rcases Nat.lt_or_ge j l.length with h' | h'
    · exact h'
    · rw [List.getElem?_eq_none (by rw [icells_length]; exact h')] at hj; cases hj
  obtain ⟨b, off, e, hc⟩ := h j hlt
  cases e
  rw [icells_get l j hlt] at hj
  rw [← hj, ← hc, Addr.add_lit]
theorem icells_one (l : List Int) : ∀ u ∈ icells l, u.oneCell' = true := fun u h => by
  obtain ⟨x, _, rfl⟩ := List.mem_map.1 h
  rfl
set_option maxRecDepth 100000 in
set_option maxHeartbeats 1000000 in
/-- yardref.CopyInts. -/
theorem copyi_any (v : Value) (l : List Int) (w : World) (hv : IntsAt w v l) (hl : l.length ≤ 1000000) : Calls Tryd.prog 5 #[v] w (RowI w l) := by
  obtain ⟨i0, hi0, hz0, hz1, hz2⟩ := info3p
  obtain ⟨ao, cap, rfl, hc⟩ := hv
  cases ao with
  | none =>
    have h0 : l = [] := by
      cases l with
      | nil => rfl
      | cons x l => obtain ⟨b, off, e, _⟩ := hc 0 (by simp); cases e
    subst h0
    have ap := append_nil3 (w.alloc (.cells #[] 3)) w.heap.size cap
    clear hc hl
    go_enter Tryd.func5, Tryd.ntmps5
    go_wp2
    go_ret
    exact ⟨_, rfl, made_empty3 w, (Below.refl _ w).alloc (Nat.le_refl _) _⟩
  | some a =>
    have HC := Lib.hid (ints_news hc)
    clear hc
    go_enter Tryd.func5, Tryd.ntmps5
    go_wp2_with (at_builtin; refine wpList_append_own _ rfl _ _ 22 rfl w.heap.size 3 i0 _ 1 8 Tryd.underlying22 hi0 hz0 hz1 hz2 rfl (by omega) _ _ _ rfl (made_empty3 w) a l.length cap (icells l) rfl ?qc1 ?qc2 ?qc3 ?qc4 ?qc5 ?qc6 ?_)
    case qc1 => rw [icells_length]; omega
    case qc2 => exact fun j u hj => Lib.cell?_alloc_some _ (HC.out j u hj)
    case qc3 => exact icells_one l
    case qc4 => unfold maxLen; omega
    case qc5 => omega
    case qc6 => simp
    intro v' w1 hown hgrow hnil
    have HO := Lib.hid hown
    have HG := Lib.hid hgrow
    clear hown hgrow hnil
    go_wp2
    go_ret
    exact ⟨v', rfl, by simpa using HO.out, below_grown HG.out⟩

set_option maxRecDepth 100000 in
set_option maxHeartbeats 4000000 in
/-- yardref.Ints. -/
theorem ints_any (u v : Value) (l m : List Int) (w : World) (hu : IntsAt w u l) (hv : IntsAt w v m) (hl : l.length ≤ 1000000) : Calls Tryd.prog 9 #[u, v] w fun e w' => e = .returned (.bool (l == m)) ∧ Below w.heap.size w w' := by
  have HU := Lib.hid hu
  have HV := Lib.hid hv
  have HL := Lib.hid hl
  obtain ⟨au, cu, rfl, _⟩ := hu
  obtain ⟨av, cv, rfl, _⟩ := hv
  clear hl
  by_cases hlen : l.length = m.length
  · have hq : ((l.length : Int) != (m.length : Int)) = false := by simp [hlen]
    have HQ := Lib.hid hlen
    clear hlen
    go_enter Tryd.func9, Tryd.ntmps9
    go_wp2
    go_loopg [5] l.length (fun k s5 wr => ∃ i : Nat, i ≤ l.length ∧ k = l.length - i ∧ s5 = .int .i64 i ∧ Hid (Below w.heap.size w wr ∧ l.take i = m.take i))
    case atStart => exact ⟨0, Nat.zero_le _, rfl, rfl, Lib.hid ⟨Below.refl _ _, rfl⟩⟩
    case round =>
      obtain ⟨i, hi, rfl, rfl, hbr⟩ := hrel
      by_cases hlt : i < l.length
      · have hlt2 : i < m.length := by have := HQ.out; omega
        obtain ⟨au', cu', he, hcu⟩ := HU.out.on hbr.out.1
        obtain ⟨bu, ou, hbu, pu⟩ := hcu i hlt
        simp only [Value.slice.injEq] at he
        obtain ⟨rfl, _, rfl⟩ := he
        subst hbu
        obtain ⟨av', cv', he, hcv⟩ := HV.out.on hbr.out.1
        obtain ⟨bv, ov, hbv, pv⟩ := hcv i hlt2
        simp only [Value.slice.injEq] at he
        obtain ⟨rfl, _, rfl⟩ := he
        subst hbv
        have hi0 : (0 : Int) ≤ (i : Int) := by omega
        have hil : (i : Int) < (l.length : Int) := by omega
        have him : (i : Int) < (m.length : Int) := by omega
        have HT : Hid (l.take (i + 1) = l.take i ++ [l[i]] ∧ m.take (i + 1) = m.take i ++ [m[i]]) := Lib.hid ⟨(List.take_append_getElem hlt).symm, (List.take_append_getElem hlt2).symm⟩
        clear hcu hcv
        by_cases hx : l[i] = m[i]
        · have hx' : (l[i] != m[i]) = false := by simpa using hx
          have HX := Lib.hid hx
          clear hx
          generalize l[i] = y at *
          generalize m[i] = z at *
          go_wp2_with fail
          go_quiet (fail)
          go_wp2
          go_roundg (l.length - (i + 1))
          case measure => omega
          case rel => exact ⟨i + 1, by omega, rfl, next_int i (by have := HL.out; omega), Lib.hid ⟨below_drewN' hbr.out.1 _, by rw [HT.out.1, HT.out.2, hbr.out.2, HX.out]⟩⟩
        · have hx' : (l[i] != m[i]) = true := by simpa using hx
          have HX := Lib.hid hx
          clear hx
          have HN : Hid ((l == m) = false) := Lib.hid (by
            rw [beq_eq_false_iff_ne]
            exact fun e => HX.out (by subst e; rfl))
          generalize l[i] = y at *
          generalize m[i] = z at *
          go_wp2_with fail
          go_quiet (fail)
          go_wp2
          go_ret
          refine ⟨?_, below_drewN' hbr.out.1 _⟩
          rw [HN.out]; rfl
      · have hil : (l.length : Int) ≤ (i : Int) := by omega
        go_wp2
        go_ret
        refine ⟨?_, hbr.out.1⟩
        have h2 := hbr.out.2
        have h3 := HQ.out
        rw [List.take_of_length_le (by omega), List.take_of_length_le (by omega)] at h2
        rw [h2]
        simp
  · have hq : ((l.length : Int) != (m.length : Int)) = true := by simp; omega
    have HQ := Lib.hid hlen
    clear hlen
    go_enter Tryd.func9, Tryd.ntmps9
    go_wp2
    go_ret
    refine ⟨?_, Below.refl _ _⟩
    have : (l == m) = false := by
      rw [beq_eq_false_iff_ne]
      exact fun e => HQ.out (by rw [e])
    rw [this]; rfl


end Go.Proofs.YtcbiomcbkmdhaaaDoor
