/- plan.New in memory. -/
import Derived.Test.YtcbiomcbkmdhaaaDoorPl2
namespace Go.Proofs.YtcbiomcbkmdhaaaDoor
open Go.RowKit Go.Extern.Stop Go.Stop Go.Extern

def zT : Value := .agg #[.int .i64 0, .int .i64 0]
theorem info45p : ∃ i0, Tryd.prog.info? 52 = some i0 ∧ i0.zero = some zT ∧ i0.size = 2 ∧ i0.bytes = 16 := by
  have : (Tryd.prog.info? 52).map (fun i => (i.zero, i.size, i.bytes)) = some (some zT, 2, 16) := by kernel_rfl
  cases h : Tryd.prog.info? 52 with
  | none => rw [h] at this; cases this
  | some i0 => rw [h] at this; simp at this; exact ⟨i0, rfl, this.1, this.2.1, this.2.2⟩
theorem made_two (n : Nat) : (madeCells zT.cells (n * 2)).toList = tcells (List.replicate n (0, 0)) := by
  apply List.ext_getElem?
  intro k
  by_cases hk : k < n * 2
  · have hg := tcells_get (List.replicate n ((0 : Int), (0 : Int))) (k / 2) (by simp; omega)
    simp only [List.getElem_replicate] at hg
    have hz : (madeCells zT.cells (n * 2)).toList[k]? = some (.int .i64 0) := by
      simp only [madeCells, zT, Value.cells]
      rcases Nat.mod_two_eq_zero_or_one k with h | h <;> simp [hk, h]
    rw [hz]
    rcases Nat.mod_two_eq_zero_or_one k with h | h
    · rw [show k = k / 2 * 2 by omega, hg.1]
    · rw [show k = k / 2 * 2 + 1 by omega, hg.2]
  · rw [List.getElem?_eq_none (by simp [madeCells]; omega), List.getElem?_eq_none (by rw [tcells_length]; simp; omega)]
/-- The first k intervals written. -/
def newTo (l : List Int) (k : Nat) : List (Int × Int) := newP (l.take k) ++ List.replicate (l.length - k) (0, 0)
theorem newTo_length (l : List Int) (k : Nat) (hk : k ≤ l.length) : (newTo l k).length = l.length := by simp [newTo, newP]; omega
theorem newTo_step (l : List Int) (k : Nat) (hk : k < l.length) : (newTo l k).set k (l[k], ((newTo l k).getD k (0, 0)).2) = newTo l (k + 1) := by
  have hl : (newP (l.take k)).length = k := by simp [newP]; omega
  have hd : ((newTo l k).getD k (0, 0)).2 = 0 := by
    unfold newTo
    simp only [List.getD_eq_getElem?_getD]
    rw [List.getElem?_append_right (by omega), hl, Nat.sub_self, List.getElem?_replicate]
    split <;> rfl
  rw [hd]
  unfold newTo
  rw [List.set_append_right _ _ (by omega), hl, Nat.sub_self]
  obtain ⟨m, hm⟩ : ∃ m, l.length - k = m + 1 := ⟨l.length - k - 1, by omega⟩
  rw [hm, show l.length - (k + 1) = m by omega, List.replicate_succ, List.set_cons_zero, ← List.take_append_getElem hk]
  simp only [newP, List.map_append, List.map_cons, List.map_nil, List.append_assoc, List.cons_append, List.nil_append]
theorem newTo_all (l : List Int) : newTo l l.length = newP l := by simp [newTo]

def NewNo (w : World) (x c : Int) (e : Ending) (w' : World) : Prop := ∃ v, e = .returned (.tuple #[.pointer none, v]) ∧ PErr w' x c v ∧ Below w.heap.size w w'
theorem new_long (ao : Option Addr) (cap n : Nat) (w : World) (h : 16 < n) : Calls Tryd.prog 6 #[.slice ao n cap] w (NewNo w 16 3) := by
  have h' : (16 : Int) < (n : Int) := by omega
  clear h
  go_enter Tryd.func6, Tryd.ntmps6
  go_wp2_with fail
  refine (fault_any _ _ _).mono ?_
  rintro e w2 ⟨⟨x, rfl, hx⟩, hb⟩
  have HR : Hid (NewNo w 16 3 (.returned (.tuple #[.pointer none, x])) w2) := Lib.hid ⟨x, rfl, hx, hb⟩
  obtain ⟨bx, rfl⟩ := hx.form
  clear hx hb
  go_wp2
  go_ret2
  exact HR.out
/-- What New answers. -/
def NewIs (w : World) (l : List Int) (e : Ending) (w' : World) : Prop :=
  (EveryOk l ∧ ∃ p v, e = .returned (.tuple #[.pointer (some ⟨p, 0, none⟩), .nilIface]) ∧ PlAt w' w.heap.size p v (newP l) ∧ Below w.heap.size w w') ∨
  (∃ j, ∃ h : j < l.length, (l[j] < 1 ∨ 10000 < l[j]) ∧ EveryOk (l.take j) ∧ NewNo w (j : Int) 1 e w')
theorem own_alloc' {w : World} {base : Nat} {e : TypeId} {size : Nat} {v : Value} {n : Nat} {xs : List Value} (h : w.ownsRow base e size v n xs) (o : Obj) : (w.alloc o).ownsRow base e size v n xs := h.alloc o
set_option maxRecDepth 100000 in
set_option maxHeartbeats 4000000 in
theorem new_any (v : Value) (l : List Int) (w : World) (hv : IntsAt w v l) (hl : l.length ≤ 16) : Calls Tryd.prog 6 #[v] w (NewIs w l) := by
  obtain ⟨i0, hi0, hz0, hz1, hz2⟩ := info45p
  obtain ⟨w0, hr, ho, hg⟩ := run_makeSlice_full (P := Tryd.prog) w w.heap.size 50 52 i0 _ 2 Tryd.underlying50 hi0 hz0 hz1 .i64 .i64 l.length (by omega) (by rw [hz2]; omega) (by unfold maxLen; omega) (Nat.le_refl _)
  rw [made_two] at ho
  have HV := Lib.hid hv
  have HO : Hid (w0.ownsRow w.heap.size 52 2 (.slice (some ⟨w.heap.size, 0, none⟩) l.length l.length) l.length (tcells (newTo l 0))) := Lib.hid (by
    have e : newTo l 0 = List.replicate l.length (0, 0) := by simp [newTo, newP]
    rw [e]; exact ho)
  have HB : Hid (Below w.heap.size w w0) := Lib.hid ⟨hg.os, hg.tape, hg.output, hg.size, fun k hk => hg.block k hk (by simp)⟩
  have HL := Lib.hid hl
  have hl' : (l.length : Int) ≤ 16 := by omega
  obtain ⟨ao, cap, rfl, hc⟩ := hv
  clear hc ho hg hl
  go_enter Tryd.func6, Tryd.ntmps6
  go_wp2
  go_loopg [16] l.length (fun k s16 wr => ∃ i : Nat, i ≤ l.length ∧ k = l.length - i ∧ s16 = .int .i64 i ∧ Hid (Below w.heap.size w wr ∧ EveryOk (l.take i) ∧ wr.ownsRow w.heap.size 52 2 (.slice (some ⟨w.heap.size, 0, none⟩) l.length l.length) l.length (tcells (newTo l i))))
  case atStart => exact ⟨0, Nat.zero_le _, rfl, rfl, Lib.hid ⟨HB.out, fun x hx => by simp at hx, HO.out⟩⟩
  case round =>
    obtain ⟨i, hi, rfl, rfl, hbr⟩ := hrel
    by_cases hlt : i < l.length
    · obtain ⟨ao', cap', he, hcu⟩ := HV.out.on hbr.out.1
      obtain ⟨b, off, hb, pu⟩ := hcu i hlt
      simp only [Value.slice.injEq] at he
      obtain ⟨rfl, _, rfl⟩ := he
      subst hb
      have hi0 : (0 : Int) ≤ (i : Int) := by omega
      have hil : (i : Int) < (l.length : Int) := by omega
      obtain ⟨x, hx⟩ : ∃ x, x = l[i] := ⟨_, rfl⟩
      have HX := Lib.hid hx
      rw [← hx] at pu
      clear hcu hx
      by_cases hq : x < 1 ∨ 10000 < x
      · have HQ : Hid (l[i] < 1 ∨ 10000 < l[i]) := Lib.hid (by rw [← HX.out]; exact hq)
        rcases hq with hq | hq <;> (
          go_wp2_with fail
          refine (fault_any _ _ _).mono ?_
          rintro e w2 ⟨⟨x, rfl, hx⟩, hb⟩
          have HR : Hid (NewIs w l (.returned (.tuple #[.pointer none, x])) w2) := Lib.hid (.inr ⟨i, hlt, HQ.out, hbr.out.2.1, x, rfl, hx, hbr.out.1.trans (hb.mono hbr.out.1.size)⟩)
          obtain ⟨bx, rfl⟩ := hx.form
          clear hx hb
          go_wp2
          go_ret2
          exact HR.out)
      · have hq1 : 1 ≤ x := by omega
        have hq2 : x ≤ 10000 := by omega
        clear hq
        have HN : Hid (Below w.heap.size w (wr.setCell ⟨w.heap.size, i * 2, none⟩ (.int .i64 x)) ∧ EveryOk (l.take (i + 1)) ∧ (wr.setCell ⟨w.heap.size, i * 2, none⟩ (.int .i64 x)).ownsRow w.heap.size 52 2 (.slice (some ⟨w.heap.size, 0, none⟩) l.length l.length) l.length (tcells (newTo l (i + 1)))) := Lib.hid ⟨hbr.out.1.setCell (Nat.le_refl _) _, by
          intro y hy
          rw [← List.take_append_getElem hlt, List.mem_append] at hy
          rcases hy with hy | hy
          · exact hbr.out.2.1 y hy
          · rw [List.mem_singleton] at hy
            rw [hy, ← HX.out]; exact ⟨hq1, hq2⟩, by
          have := (hbr.out.2.2.stored (i * 2) (.int .i64 x)).1
          rw [tcells_every, HX.out, newTo_step l i hlt] at this
          rw [HX.out]
          exact this⟩
        have hcl : (wr.cell? ⟨w.heap.size, i * 2, none⟩).isSome = true ∧ wr.frozen? ⟨w.heap.size, i * 2, none⟩ = false := by
          refine ⟨?_, hbr.out.2.2.frozenAt _⟩
          rw [hbr.out.2.2.cellAt (i * 2) (by omega), List.getElem?_eq_getElem (by rw [tcells_length, newTo_length _ _ (by omega)]; omega)]
          rfl
        obtain ⟨old, hold⟩ := Option.isSome_iff_exists.1 hcl.1
        have hfr := hcl.2
        clear hcl
        go_wp2
        go_roundg (l.length - (i + 1))
        case measure => omega
        case rel => exact ⟨i + 1, by omega, rfl, (by first | exact next_int i (by have := HL.out; omega) | exact congrArg _ (by omega)), HN⟩
    · have hil : (l.length : Int) ≤ (i : Int) := by omega
      have e : i = l.length := by omega
      have HR : Hid (NewIs w l (.returned (.tuple #[.pointer (some ⟨wr.heap.size, 0, none⟩), .nilIface])) (wr.alloc (.cells #[.slice (some ⟨w.heap.size, 0, none⟩) l.length l.length] 54))) := Lib.hid (by
        have h3 := hbr.out.2
        rw [e, List.take_length, newTo_all] at h3
        refine .inl ⟨h3.1, _, _, rfl, ⟨hbr.out.1.size, heap_alloc_new wr _, ?_⟩, hbr.out.1.alloc hbr.out.1.size _⟩
        rw [newP_length]
        exact h3.2.alloc _)
      clear hbr e
      go_wp2
      go_ret2
      exact HR.out
end Go.Proofs.YtcbiomcbkmdhaaaDoor
