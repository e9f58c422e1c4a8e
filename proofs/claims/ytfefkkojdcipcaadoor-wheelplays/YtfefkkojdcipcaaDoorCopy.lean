/- wheel.List, slices.Clone of timers, wheel.Copy. -/
import Derived.Test.YtfefkkojdcipcaaDoorIds
import Derived.Lib.OwnBridge
import Derived.LaidEql
import Derived.Lib.SlBytesConst
import Derived.Deep.RegionWith
import Derived.Test.YtfefkkojdcipcaaDoorAsk
namespace Go.Proofs.YtfefkkojdcipcaaDoor
open Go.RowKit Go.Extern.Stop Go.Stop Go.Extern

theorem row_slice' {w : World} {B : Nat} {e : TypeId} {size : Nat} {v : Value} {n : Nat} {xs : List Value} (h : w.ownsRow B e size v n xs) : ∃ ao cap, v = .slice ao n cap := by
  rcases h.2 with ⟨hv, h0⟩ | ⟨g, cap, cur, hv, _⟩
  · exact ⟨none, 0, by rw [hv, h0]⟩
  · exact ⟨_, cap, hv⟩
/-- A row of numbers of one's own. -/
def IntsOwn (w : World) (v : Value) (l : List Int) : Prop := ∃ B, w.ownsRow B 3 1 v l.length (icells l)
theorem IntsOwn.at {w : World} {v : Value} {l : List Int} (h : IntsOwn w v l) : IntsAt w v l := by
  obtain ⟨B, h⟩ := h
  exact intsAt_own h
theorem IntsOwn.on {w w' : World} {v : Value} {l : List Int} (h : IntsOwn w v l) (hb : Below w.heap.size w w') : IntsOwn w' v l := by
  obtain ⟨B, h⟩ := h
  exact ⟨B, ownsRow_below h hb⟩
theorem IntsOwn.slice {w : World} {v : Value} {l : List Int} (h : IntsOwn w v l) : ∃ ao cap, v = .slice ao l.length cap := by
  obtain ⟨B, h⟩ := h
  exact row_slice' h
/-- A row of numbers is no block of a Wheel. -/
theorem IntsOwn.apart {w : World} {x : Value} {l : List Int} (h : IntsOwn w x l) {B p : Nat} {now : Int} {v : Value} {ts : List (Int × Int)} (hw : WhAt w B p now v ts) (k : Nat) (hk : x.ownBlock = some k) : ¬ Wrote p v k := by
  obtain ⟨B', h⟩ := h
  rintro (rfl | e)
  · exact row_no h hw.obj (by decide) hk
  · rcases hw.own.2 with ⟨hv, _⟩ | ⟨g, cap, cur, hv, _, hh, _⟩
    · rw [hv] at e; cases e
    · rw [hv] at e
      have : g = k := by simpa [Value.ownBlock] using e
      subst this
      exact row_no h hh (by decide) hk
theorem IntsOwn.off {w w' : World} {x : Value} {l : List Int} (h : IntsOwn w x l) {B p : Nat} {now : Int} {v : Value} {ts : List (Int × Int)} (hw : WhAt w B p now v ts) (ho : Off (Wrote p v) w w') : IntsOwn w' x l := by
  have ha := h.apart hw
  obtain ⟨B', h⟩ := h
  exact ⟨B', ownsRow_off h ho ha⟩
/-- Numbers in ascending order. -/
def sortI (l : List Int) : List Int := l.mergeSort fun x y => decide (x ≤ y)
theorem sortI_length (l : List Int) : (sortI l).length = l.length := List.length_mergeSort l
theorem below_grow' {B : Nat} {a w : World} (h : Below B a w) (hB : B ≤ w.heap.size) (os : Array Obj) : Below B a (Go.Sort.grow w os) :=
  ⟨h.os, h.tape, h.output, Nat.le_trans h.size (by simp [Go.Sort.grow]), fun k hk => (Go.Sort.heap_grow_old w os (by omega)).trans (h.block k hk)⟩

set_option maxRecDepth 100000 in
set_option maxHeartbeats 4000000 in
theorem list_any (B p : Nat) (now : Int) (v : Value) (ts : List (Int × Int)) (w : World) (h : WhAt w B p now v ts) (hl : ts.length ≤ 100000) :
    Calls Tryd.prog 23 #[.pointer (some ⟨p, 0, none⟩)] w fun e w' => ∃ x, e = .returned x ∧ IntsOwn w' x (sortI (ts.map (·.1))) ∧ Below w.heap.size w w' := by
  have c1 := h.c1
  obtain ⟨ao, cap, rfl, _, _, hcell⟩ := h.form
  have HI := Lib.hid (idsOf_any ao cap ts w hcell hl)
  have HL : Hid ((ts.map (·.1)).length ≤ 100000) := Lib.hid (by simpa using hl)
  clear h hcell hl
  generalize ts.map (·.1) = l at *
  go_enter Tryd.func23, Tryd.ntmps23
  go_wp2_with fail
  refine HI.out.mono ?_
  rintro e w1 ⟨g, rfl, ho, hb⟩
  have HO := Lib.hid ho
  have HB := Lib.hid hb
  clear ho hb
  go_wp2_with fail
  obtain ⟨g', cap', e, hBg, hglt, _, _, _, hH⟩ := Lib.holds_of_ownsRow (enc := Value.int .i64) (zs := l) HO.out (by simp)
  simp only [Value.slice.injEq, Option.some.injEq, Addr.mk.injEq] at e
  obtain ⟨⟨rfl, _, _⟩, _, rfl⟩ := e
  refine (Tryd.slices_Sort_int g 0 l.length l w1 hH hglt (by have := HL.out; omega)).mono ?_
  rintro e w2 ⟨rfl, n, os, hw2⟩
  have HR : Hid (IntsOwn w2 (.slice (some ⟨g, 0, none⟩) l.length l.length) (sortI l) ∧ Below w.heap.size w w2) := by
    have h1 := Lib.ownsRow_putRow (enc := Value.int .i64) (q := n) (k := l.length) (ys := sortI l) HO.out (sortI_length l) (Nat.le_refl _)
    rw [List.take_of_length_le (by rw [sortI_length]; exact Nat.le_refl _)] at h1
    have h2 : Below w.heap.size w (Go.Sort.putRow (Value.int .i64) (Go.Sort.ahead w1 n) g 0 (sortI l).toArray) := Lib.below_putRow HB.out hBg
    have h3 : IntsOwn (Go.Sort.putRow (Value.int .i64) (Go.Sort.ahead w1 n) g 0 (sortI l).toArray) (.slice (some ⟨g, 0, none⟩) l.length l.length) (sortI l) :=
      ⟨w.heap.size, by rw [sortI_length]; exact h1⟩
    rw [hw2]
    exact Lib.hid ⟨h3.on (below_grow' (Below.refl _ _) (Nat.le_refl _) os), below_grow' h2 h2.size os⟩
  clear hH hw2
  go_wp2
  go_ret
  exact ⟨_, rfl, HR.out.1, HR.out.2⟩

theorem timers_news {w : World} {ts : List (Int × Int)} {g : Nat} (h : ∀ i (_ : i < ts.length), w.cell? ⟨g, i * 2, none⟩ = some (.int .i64 ts[i].1) ∧ w.cell? ⟨g, i * 2 + 1, none⟩ = some (.int .i64 ts[i].2)) :
    ∀ j u, (tcells ts)[j]? = some u → w.cell? ((⟨g, 0, none⟩ : Addr).add j) = some u := fun j u hj => by
  have hlt : j < ts.length * 2 := by
    rcases Nat.lt_or_ge j (ts.length * 2) with h' | h'
    · exact h'
    · rw [List.getElem?_eq_none (by rw [tcells_length]; exact h')] at hj; cases hj
  have hg := tcells_get ts (j / 2) (by omega)
  have hc := h (j / 2) (by omega)
  rw [Addr.add_lit, Nat.zero_add]
  rcases Nat.mod_two_eq_zero_or_one j with h2 | h2
  · rw [show j = j / 2 * 2 by omega] at hj ⊢
    rw [hg.1] at hj
    rw [← hj]; exact hc.1
  · rw [show j = j / 2 * 2 + 1 by omega] at hj ⊢
    rw [hg.2] at hj
    rw [← hj]; exact hc.2
theorem made_empty70 (w : World) : (w.alloc (.cells #[] 70)).ownsRow w.heap.size 70 2 (.slice (some ⟨w.heap.size, 0, none⟩) 0 0) 0 [] := World.ownsRow_made w #[] 0 (Nat.le_refl _) (Nat.zero_le _) (by simp)
theorem below_grown {w w' : World} {o : Obj} (hg : (w.alloc o).grownBy w' (some w.heap.size)) : Below w.heap.size w w' :=
  ((Below.refl _ w).alloc (Nat.le_refl _) _).grown hg (by simp) (by intro k hk; simp at hk; omega)
theorem info70q : ∃ i0, Tryd.prog.info? 70 = some i0 ∧ i0.zero = some zT ∧ i0.size = 2 ∧ i0.bytes = 16 := by
  have := info70
  cases h : Tryd.prog.info? 70 with
  | none => rw [h] at this; cases this
  | some i0 => rw [h] at this; simp at this; exact ⟨i0, rfl, this.1, this.2.1, this.2.2⟩

/-- What a copy of timers is: a row of the call's own. -/
def CloneIs (w : World) (ts : List (Int × Int)) (e : Ending) (w' : World) : Prop :=
  ∃ v', e = .returned v' ∧ w'.ownsRow w.heap.size 70 2 v' ts.length (tcells ts) ∧ Below w.heap.size w w'

set_option maxRecDepth 100000 in
set_option maxHeartbeats 4000000 in
theorem clone_any (B : Nat) (v : Value) (ts : List (Int × Int)) (w : World) (h : w.ownsRow B 70 2 v ts.length (tcells ts)) (hl : ts.length ≤ 100000) : Calls Tryd.prog 39 #[v] w (CloneIs w ts) := by
  obtain ⟨i0, hi0, hz0, hz1, hz2⟩ := info70q
  have q59 : ∀ (w : World) (a : Option Addr) (n c n' c' : Nat), (binOp .eql 59 (.slice a n c) (.slice none n' c')).run Tryd.prog w = .ok (.bool a.isNone) w := fun w a n c n' c' => Lib.run_eql_slice_nil w _ _ a n c n' c' Tryd.underlying59
  rcases h.2 with ⟨hv, h0⟩ | ⟨g, cap, cur, hv, _, hh, hc, hm, hz, hx⟩
  · subst hv
    have h1 : ts = [] := List.length_eq_zero_iff.1 h0
    subst h1
    clear h h0 hl
    go_enter Tryd.func39, Tryd.ntmps39
    go_wp2
    go_ret
    exact ⟨_, rfl, World.ownsRow_nil _ _ _ _, Below.refl _ _⟩
  · subst hv
    have HC : Hid (∀ j u, (tcells ts)[j]? = some u → w.cell? ((⟨g, 0, none⟩ : Addr).add j) = some u) := Lib.hid fun j u hj => by
      rw [Addr.add_lit, Nat.zero_add]
      exact row_cells hh hx j u hj
    clear h hh hx hz hm
    go_enter Tryd.func39, Tryd.ntmps39
    go_wp2_with (at_builtin; refine wpList_append_own _ rfl _ _ 59 rfl w.heap.size 70 i0 _ 2 16 Tryd.underlying59 hi0 hz0 hz1 hz2 rfl (by omega) _ _ _ rfl (made_empty70 w) ⟨g, 0, none⟩ ts.length cap (tcells ts) rfl ?qc1 ?qc2 ?qc3 ?qc4 ?qc5 ?qc6 ?_)
    case qc1 => rw [tcells_length]
    case qc2 => exact fun j u hj => Lib.cell?_alloc_some _ (HC.out j u hj)
    case qc3 => exact tcells_one ts
    case qc4 => unfold maxLen; omega
    case qc5 => omega
    case qc6 => simp
    intro v' w1 hown hgrow hnil
    have HO := Lib.hid hown
    have HG := Lib.hid hgrow
    clear hown hgrow hnil
    go_wp2
    go_ret
    exact ⟨v', rfl, by simpa using HO.out, below_grown HG.out⟩

/-- What Copy makes. -/
def CopyIs (w : World) (now : Int) (ts : List (Int × Int)) (e : Ending) (w' : World) : Prop :=
  ∃ q v', e = .returned (.pointer (some ⟨q, 0, none⟩)) ∧ WhAt w' w.heap.size q now v' ts ∧ Below w.heap.size w w'
theorem copy_end {w w1 : World} {now : Int} {ts : List (Int × Int)} {v' : Value} (ho : w1.ownsRow w.heap.size 70 2 v' ts.length (tcells ts)) (hb : Below w.heap.size w w1) : CopyIs w now ts (.returned (.pointer (some ⟨w1.heap.size, 0, none⟩))) (w1.alloc (.cells #[.int .i64 now, v'] 61)) :=
  ⟨w1.heap.size, v', rfl, ⟨hb.size, heap_alloc_new w1 _, ho.alloc _⟩, hb.alloc hb.size _⟩

set_option maxRecDepth 100000 in
set_option maxHeartbeats 4000000 in
theorem copy_any (B p : Nat) (now : Int) (v : Value) (ts : List (Int × Int)) (w : World) (h : WhAt w B p now v ts) (hl : ts.length ≤ 100000) : Calls Tryd.prog 19 #[.pointer (some ⟨p, 0, none⟩)] w (CopyIs w now ts) := by
  have H := Lib.hid h
  have c0 := h.c0
  have c1 := h.c1
  have HC := Lib.hid (And.intro h.c0 h.lt)
  have HD : ∀ W : World, Hid (Below w.heap.size w W → Calls Tryd.prog 39 #[v] W (CloneIs W ts)) := fun W => Lib.hid fun hb => clone_any B v ts W (h.on hb).own hl
  have HB0 : Hid (Below w.heap.size w w.drew) := Lib.hid (Below.refl _ _).drew
  obtain ⟨ao, cap, rfl, _, _, hcell⟩ := h.form
  clear h hcell
  go_enter Tryd.func19, Tryd.ntmps19
  go_wp2_with fail
  go_region_with (go_at_call 39; refine ((HD _).out HB0.out).mono ?_; rintro e w1 ⟨v', rfl, ho, hb⟩; have HR : Hid (CopyIs w now ts (.returned (.pointer (some ⟨w1.heap.size, 0, none⟩))) (w1.alloc (.cells #[.int .i64 now, v'] 61))) := Lib.hid (copy_end ho (HB0.out.trans hb)); have q0 : w1.cell? ⟨p, 0, none⟩ = some (.int .i64 now) := ((HB0.out.trans hb).cell (p := ⟨p, 0, none⟩) HC.out.2).trans HC.out.1; obtain ⟨ao', cap', rfl⟩ := row_slice' ho; clear ho hb)
  all_goals
    clear q0
    go_wp2
    go_ret
    exact HR.out
end Go.Proofs.YtfefkkojdcipcaaDoor
