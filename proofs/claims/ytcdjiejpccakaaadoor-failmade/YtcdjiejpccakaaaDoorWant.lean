/- yardlaw1.want: the document's own answer for a code in wraps: its code and its path, the last step first; memory that was there stands. -/
import Derived.Test.YtcdjiejpccakaaaDoorThrough
import Derived.Deep.RegionLaw
namespace Go.Proofs.YtcdjiejpccakaaaDoor
open Go.RowKit Go.Extern.Stop Go.Stop Go.Extern

theorem info58 : (Tryd.prog.info? 58).map (fun i => (i.zero, i.size, i.bytes)) = some (some (.agg #[.string ⟨#[]⟩, .int .i64 0]), 2, 24) := by kernel_rfl

theorem grown_set (w : World) (p : Addr) (u : Value) : w.grownBy (w.setCell p u) (some p.block) :=
  ⟨rfl, rfl, rfl, by simp [World.setCell], fun k _ hk => Below.heap_setCell w p u k (fun e => hk (by rw [e]))⟩

/-- append of nothing to a slice that is full. -/
theorem append_none (W : World) (g : Nat) : (Builtin.append_ #[30, 30] 30 #[.slice (some ⟨g, 0, none⟩) 1 1, .slice none 0 0]).run Tryd.prog W = .ok (.slice (some ⟨g, 0, none⟩) 1 1) W := by
  obtain ⟨i0, hi0, _, _, _⟩ := info_parts info58
  simp [Builtin.append_, run_underlying Tryd.underlying30, sizeOf, typeInfo, hi0, Builtin.lenOf, Builtin.firstCells, storeCells]

theorem stepCells_one : ∀ (l : List (ByteArray × Int)), ∀ u ∈ stepCells l, u.oneCell' = true
  | (_, _) :: l, u, h => by
    simp only [stepCells, List.mem_cons] at h
    rcases h with rfl | rfl | h
    · rfl
    · rfl
    · exact stepCells_one l u h

/-- A slice of one step, just built. -/
theorem made_row (w wr : World) (s : ByteArray) (p : Int) (hsz : w.heap.size + 2 ≤ wr.heap.size) : (wr.alloc (.cells #[.string s, .int .i64 p] 58)).ownsRow (w.heap.size + 2) 58 2 (.slice (some ⟨wr.heap.size, 0, none⟩) 1 1) 1 [.string s, .int .i64 p] :=
  ⟨rfl, .inr ⟨wr.heap.size, 1, #[.string s, .int .i64 p], rfl, hsz, heap_alloc_new wr _, Nat.le_refl _, by unfold maxLen; omega, rfl, rfl⟩⟩
/-- An old cell behind the append. -/
theorem want_old {wr w2 : World} {o : Obj} (hg : (wr.alloc o).drew.grownBy w2 (some wr.heap.size)) (a : Addr) {n : Nat} (ha : a.block + 1 ≤ n ∧ n ≤ wr.heap.size) : w2.cell? a = wr.cell? a ∧ w2.frozen? a = wr.frozen? a := by
  have e : w2.heap[a.block]? = wr.heap[a.block]? := (hg.block a.block (by show a.block < (wr.alloc o).heap.size; simp; omega) (by simp; omega)).trans (Below.heap_alloc wr o a.block (by omega))
  exact ⟨World.cell?_of_block e, World.frozen?_of_block e⟩

theorem want_below {wr w2 : World} {o : Obj} (hg : (wr.alloc o).drew.grownBy w2 (some wr.heap.size)) : Below wr.heap.size wr w2 :=
  (below_new wr o).drew.grown hg (below_new wr o).size (fun k hk => by cases hk; exact Nat.le_refl _)

/-- What want holds in its own variable. -/
structure WantInv (w : World) (c : Int) (l : List (ByteArray × Int)) (i : Nat) (wr : World) : Prop where
  below : Below w.heap.size w wr
  size : w.heap.size + 2 ≤ wr.heap.size
  code : wr.cell? ⟨w.heap.size + 1, 0, none⟩ = some (.int .i64 c)
  own : ∃ sl, wr.cell? ⟨w.heap.size + 1, 1, none⟩ = some sl ∧ wr.ownsRow (w.heap.size + 2) 58 2 sl i (stepCells (l.take i).reverse) ∧ (i = 0 → sl = .slice none 0 0)
  f1 : wr.frozen? ⟨w.heap.size + 1, 1, none⟩ = false
  r0 : wr.cell? ⟨w.heap.size, 0, none⟩ = some (.int .i64 0)
  r1 : wr.cell? ⟨w.heap.size, 1, none⟩ = some (.slice none 0 0)
  g0 : wr.frozen? ⟨w.heap.size, 0, none⟩ = false
  g1 : wr.frozen? ⟨w.heap.size, 1, none⟩ = false

theorem WantInv.drew {w : World} {c : Int} {l : List (ByteArray × Int)} {i : Nat} {wr : World} (h : WantInv w c l i wr) : WantInv w c l i wr.drew :=
  ⟨h.below.drew, h.size, h.code, h.own, h.f1, h.r0, h.r1, h.g0, h.g1⟩
/-- A round of want: new blocks, and the new list stored. -/
theorem WantInv.step {w : World} {c : Int} {l : List (ByteArray × Int)} {i : Nat} {wr w2 : World} (h : WantInv w c l i wr) (hb : Below wr.heap.size wr w2) (sl : Value)
    (hown : w2.ownsRow (w.heap.size + 2) 58 2 sl (i + 1) (stepCells (l.take (i + 1)).reverse)) : WantInv w c l (i + 1) (w2.setCell ⟨w.heap.size + 1, 1, none⟩ sl) := by
  have hs := h.size
  have hs2 := hb.size
  have l0 : w.heap.size < wr.heap.size := by omega
  have l1 : w.heap.size + 1 < wr.heap.size := by omega
  obtain ⟨old, hold, _⟩ := h.own
  have hold2 : w2.cell? ⟨w.heap.size + 1, 1, none⟩ = some old := (hb.cell (p := ⟨w.heap.size + 1, 1, none⟩) l1).trans hold
  refine ⟨(h.below.trans (hb.mono h.below.size)).setCell (Nat.le_succ _) _, by rw [show (w2.setCell ⟨w.heap.size + 1, 1, none⟩ sl).heap.size = w2.heap.size by simp [World.setCell]]; omega, ?_, ⟨sl, ?_, ?_, fun e => by omega⟩, ?_, ?_, ?_, ?_, ?_⟩
  · rw [World.cell?_setCell_other _ _ _ _ (by simp)]; exact (hb.cell (p := ⟨w.heap.size + 1, 0, none⟩) l1).trans h.code
  · exact World.cell?_setCell_same _ _ _ hold2
  · exact hown.kept (grown_set _ _ _) (.inr (fun e => by have := (hown.lt _ e).1; exact absurd this (Nat.not_succ_le_self _)))
  · rw [World.frozen?_setCell]; exact (hb.frozen (p := ⟨w.heap.size + 1, 1, none⟩) l1).trans h.f1
  · rw [World.cell?_setCell_other _ _ _ _ (by simp)]; exact (hb.cell (p := ⟨w.heap.size, 0, none⟩) l0).trans h.r0
  · rw [World.cell?_setCell_other _ _ _ _ (by simp)]; exact (hb.cell (p := ⟨w.heap.size, 1, none⟩) l0).trans h.r1
  · rw [World.frozen?_setCell]; exact (hb.frozen (p := ⟨w.heap.size, 0, none⟩) l0).trans h.g0
  · rw [World.frozen?_setCell]; exact (hb.frozen (p := ⟨w.heap.size, 1, none⟩) l0).trans h.g1

set_option maxRecDepth 100000 in
set_option maxHeartbeats 4000000 in
theorem want_some (c : Int) (hc : c ≠ 0) (v : Value) (l : List (ByteArray × Int)) (w : World) (hs : StepsAt w v l) (hlen : l.length ≤ 200) :
    Calls Tryd.prog 13 #[.int .i64 c, v] w fun e w' => (∃ sl base, e = .returned (.agg #[.int .i64 c, sl]) ∧ w'.ownsRow base 58 2 sl l.length (stepCells l.reverse)) ∧ Below w.heap.size w w' := by
  obtain ⟨i0, hi0, hz0, hz1, hz2⟩ := info_parts info58
  have HS := Lib.hid hs
  obtain ⟨ao, cap, rfl, hl, hx, hcell⟩ := hs
  have hq : (c != 0) = true := by simpa using hc
  have ha := append_none
  clear hx hcell hl hc
  go_enter Tryd.func13, Tryd.ntmps13
  go_wp2
  go_loopg [6] l.length (fun k s6 wr => ∃ i : Nat, i ≤ l.length ∧ k = l.length - i ∧ s6 = .int .i64 i ∧ Hid (WantInv w c l i wr))
  case atStart => exact ⟨0, Nat.zero_le _, rfl, rfl, Lib.hid ⟨two_belowW _ _ _, by simp, by simp, ⟨_, by simp, World.ownsRow_nil _ _ _ _, fun _ => rfl⟩, by simp, by rw [World.cell?_alloc_lt _ _ ⟨w.heap.size, 0, none⟩ (by simp)]; simp, by rw [World.cell?_alloc_lt _ _ ⟨w.heap.size, 1, none⟩ (by simp)]; simp, by rw [World.frozen?_alloc_old _ _ ⟨w.heap.size, 0, none⟩ (by simp)]; simp, by rw [World.frozen?_alloc_old _ _ ⟨w.heap.size, 1, none⟩ (by simp)]; simp⟩⟩
  case round =>
    obtain ⟨i, hi, rfl, rfl, hinv⟩ := hrel
    by_cases hlt : i < l.length
    · obtain ⟨hbl, hsz, hcd, ⟨sl, hsl, hown, hnil⟩, hf1, hr0, hr1, hg0, hg1⟩ := hinv.out
      obtain ⟨ao', cap', hv, _, hx, hcc⟩ := HS.out.on hbl
      cases hv
      obtain ⟨b, off, rfl, hblt, h0, h1⟩ := hcc i hlt
      have HI := Lib.hid hinv.out
      have hi1 : (0 : Int) ≤ (i : Int) := by omega
      have hi2 : (i : Int) < (l.length : Int) := by omega
      clear hcc hx hinv hbl hcd hr0 hr1 hg0 hg1
      by_cases hz : i = 0
      · subst hz
        obtain rfl : sl = .slice none 0 0 := hnil rfl
        simp only [Nat.zero_mul, Nat.add_zero] at h0 h1
        have hsl' : ∀ o, (wr.alloc o).cell? ⟨w.heap.size + 1, 1, none⟩ = some (.slice none 0 0) := fun o => by rw [World.cell?_alloc_lt _ _ ⟨w.heap.size + 1, 1, none⟩ (show w.heap.size + 1 < wr.heap.size by omega)]; exact hsl
        have hf1' : ∀ o, (wr.alloc o).frozen? ⟨w.heap.size + 1, 1, none⟩ = false := fun o => by rw [World.frozen?_alloc_old _ _ ⟨w.heap.size + 1, 1, none⟩ (show w.heap.size + 1 ≠ wr.heap.size by omega)]; exact hf1
        have hst : Hid (WantInv w c l 1 (((wr.alloc (.cells #[.string l[0].1, .int .i64 l[0].2] 58)).setCell ⟨w.heap.size + 1, 1, none⟩ (.slice (some ⟨wr.heap.size, 0, none⟩) 1 1)).drew)) := Lib.hid (HI.out.step (below_new wr _) _ (by
          rw [take_rev l 0 hlt]
          exact made_row w wr _ _ hsz) |>.drew)
        clear hnil hown HI
        go_wp2
        go_region_law (fail)
        all_goals
          go_wp2
          go_roundg (l.length - 1)
          case measure => omega
          case rel => exact ⟨1, by omega, rfl, rfl, hst⟩
      · obtain ⟨g, cg, rfl, hgl⟩ : ∃ g cg, sl = .slice (some ⟨g, 0, none⟩) i cg ∧ w.heap.size + 2 ≤ g := by
          rcases hown.2 with ⟨_, h0⟩ | ⟨g, cap, cur, hv, hg, _⟩
          · omega
          · exact ⟨g, _, hv, hg⟩
        have hip : 0 < i := by omega
        have hsl' : ∀ o, (wr.alloc o).cell? ⟨w.heap.size + 1, 1, none⟩ = some (.slice (some ⟨g, 0, none⟩) i cg) := fun o => by rw [World.cell?_alloc_lt _ _ ⟨w.heap.size + 1, 1, none⟩ (show w.heap.size + 1 < wr.heap.size by omega)]; exact hsl
        have HC := Lib.hid ((hown.alloc (.cells #[.string l[i].1, .int .i64 l[i].2] 58)).cells (g := g) rfl)
        have HO := Lib.hid hown
        have H1 := Lib.hid (stepCells_one (l.take i).reverse)
        have HM := Lib.hid (made_row w wr l[i].1 l[i].2 hsz)
        have HF := Lib.hid hf1
        clear hown hnil hz
        go_wp2
        go_region_law ((refine step_append_lies _ (by rfl) _ _ _ (by rfl) (w.heap.size + 2) 58 i0 _ 2 24 Tryd.underlying30 hi0 hz0 hz1 hz2 rfl (by omega) (.slice (some ⟨wr.heap.size, 0, none⟩) 1 1) 1 [.string l[i].1, .int .i64 l[i].2] (by rfl) HM.out ⟨g, 0, none⟩ i cg (stepCells (l.take i).reverse) (by rfl) HO.out.1 HC.out H1.out hip (by unfold maxLen; omega) (by omega) (by simp; omega) (wr.heap.size + 1) (by simp) ?_; intro gg cap2 w2 hown2 hgrow hat hlt2; have q0 : w2.cell? ⟨w.heap.size + 1, 1, none⟩ = some (.slice (some ⟨g, 0, none⟩) i cg) := (want_old hgrow ⟨w.heap.size + 1, 1, none⟩ ⟨Nat.le_refl _, hsz⟩).1.trans hsl; have q1 : w2.frozen? ⟨w.heap.size + 1, 1, none⟩ = false := (want_old hgrow ⟨w.heap.size + 1, 1, none⟩ ⟨Nat.le_refl _, hsz⟩).2.trans HF.out))
        all_goals
          have hst : Hid (WantInv w c l (i + 1) (w2.setCell ⟨w.heap.size + 1, 1, none⟩ (.slice (some ⟨gg, 0, none⟩) (1 + i) cap2))) := Lib.hid (HI.out.step (want_below hgrow) _ (by
            rw [take_rev l i hlt, Nat.add_comm i 1]
            exact hown2))
          clear hown2 hgrow hat hlt2 q0 q1
          go_wp2
          go_roundg (l.length - (i + 1))
          case measure => omega
          case rel => exact ⟨i + 1, by omega, rfl, by go_num, hst⟩
    · have hil : i = l.length := by omega
      obtain ⟨hbl, hsz, hcd, ⟨sl, hsl, hown, hnil⟩, hf1, hr0, hr1, hg0, hg1⟩ := hinv.out
      obtain ⟨ap, n', cap', rfl⟩ : ∃ ap n' cap', sl = .slice ap n' cap' := by
        rcases hown.2 with ⟨hv, h0⟩ | ⟨g, cap, cur, hv, _⟩
        · exact ⟨_, _, _, hv⟩
        · exact ⟨_, _, _, hv⟩
      rw [hil, List.take_length] at hown
      have HO := Lib.hid hown
      have HB := Lib.hid hbl
      clear hil hinv hown hbl hnil
      go_wp2
      have e0 : ((wr.setCell ⟨w.heap.size, 0, none⟩ (.int .i64 c)).setCell ⟨w.heap.size, 1, none⟩ (.slice ap n' cap')).cell? ⟨w.heap.size, 0, none⟩ = some (.int .i64 c) := by
        rw [World.cell?_setCell_other _ _ _ _ (by simp)]
        exact World.cell?_setCell_same _ _ _ hr0
      have e1 : ((wr.setCell ⟨w.heap.size, 0, none⟩ (.int .i64 c)).setCell ⟨w.heap.size, 1, none⟩ (.slice ap n' cap')).cell? ⟨w.heap.size, 1, none⟩ = some (.slice ap n' cap') :=
        World.cell?_setCell_same (u := .slice none 0 0) _ _ _ (by rw [World.cell?_setCell_other _ _ _ _ (by simp)]; exact hr1)
      refine bodyPost_ret (v := .agg #[.int .i64 c, .slice ap n' cap']) ?_ rfl ⟨⟨_, w.heap.size + 2, rfl, ?_⟩, ?_⟩
      · simp [results, Tryd.results13, go_sem, e0, e1]
      · have hne : (Value.slice ap n' cap').ownBlock ≠ some w.heap.size := fun e => by have := (HO.out.lt _ e).1; omega
        exact (HO.out.kept (grown_set _ _ _) (.inr hne)).kept (grown_set _ _ _) (.inr hne)
      · exact (HB.out.setCell (Nat.le_refl _) _).setCell (Nat.le_refl _) _
end Go.Proofs.YtcdjiejpccakaaaDoor
