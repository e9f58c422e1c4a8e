/- The document's NewPlan. -/
import Derived.Test.YtcbiomcbkmdhaaaDoorR3
import Derived.Deep.RegionWith
namespace Go.Proofs.YtcbiomcbkmdhaaaDoor
open Go.RowKit Go.Extern.Stop Go.Stop Go.Extern

def RNewNo (w : World) (x c : Int) (e : Ending) (w' : World) : Prop := ∃ g : Nat, e = .returned (.tuple #[.pointer none, .agg #[.int .i64 c, .slice (some ⟨g, 0, none⟩) 1 1]]) ∧ StepsOwn w' (.slice (some ⟨g, 0, none⟩) 1 1) [(sPlan, x)] ∧ Below w.heap.size w w'
def RNewOk (w : World) (l : List Int) (e : Ending) (w' : World) : Prop := ∃ q ve vd, e = .returned (.tuple #[.pointer (some ⟨q, 0, none⟩), e0]) ∧ RpAt w' w.heap.size q ve vd (newP l) ∧ Below w.heap.size w w'
theorem rnew_key (w : World) (x c : Int) (g : Nat) (wa : World) (ha : AtBox w wa w.heap.size x c g) : BoxE (fin2 wa w.heap.size c (.slice (some ⟨g, 0, none⟩) 1 1)) w.heap.size c (.slice (some ⟨g, 0, none⟩) 1 1) ∧ RNewNo w x c (.returned (.tuple #[.pointer none, .agg #[.int .i64 c, .slice (some ⟨g, 0, none⟩) 1 1]])) (fin2 wa w.heap.size c (.slice (some ⟨g, 0, none⟩) 1 1)) :=
  ⟨fin2_box ha.box _ _, g, rfl, ha.steps.off (fin2_off _ _ _ _) ha.ne, fin2_below ha.below _ (Nat.le_refl _) _ _⟩
set_option maxRecDepth 100000 in
set_option maxHeartbeats 2000000 in
theorem rnew_long (ao : Option Addr) (cap n : Nat) (w : World) (h : 16 < n) : Calls Tryd.prog 7 #[.slice ao n cap] w (RNewNo w 16 3) := by
  obtain ⟨wx, hwx⟩ : ∃ wx, wx = w.alloc (.cells #[.int .i64 0, .slice none 0 0] 35) := ⟨_, rfl⟩
  have X0 : Hid (Below w.heap.size w wx) := Lib.hid (by rw [hwx]; exact below_nw w _)
  have B0 : Hid (BoxE wx w.heap.size 0 (.slice none 0 0)) := Lib.hid (by rw [hwx]; exact heap_alloc_new w _)
  have h' : (16 : Int) < (n : Int) := by omega
  clear h
  go_enter Tryd.func7, Tryd.ntmps7
  go_wp2_with fail
  rw [← hwx]
  clear hwx
  refine (at_box 16 3 w wx _ B0.out X0.out).mono ?_
  rintro e wa ⟨g, rfl, HA⟩
  obtain ⟨c0, c1, f0, f1⟩ := HA.out.box.cells
  have HF := Lib.hid (rnew_key w 16 3 g wa HA.out)
  unfold fin2 at HF
  go_wp2
  generalize (World.setCell (World.setCell wa _ _) _ _) = W at HF ⊢
  obtain ⟨d0, d1, _, _⟩ := HF.out.1.cells
  refine bodyPost_ret (v := .tuple #[.pointer none, .agg #[.int .i64 3, .slice (some ⟨g, 0, none⟩) 1 1]]) ?_ rfl HF.out.2
  simp [results, Tryd.results7, go_sem, d0, d1]
/-- What NewPlan answers. -/
def RNewIs (w : World) (l : List Int) (e : Ending) (w' : World) : Prop :=
  (EveryOk l ∧ RNewOk w l e w') ∨ (∃ j, ∃ h : j < l.length, (l[j] < 1 ∨ 10000 < l[j]) ∧ EveryOk (l.take j) ∧ RNewNo w (j : Int) 1 e w')
theorem made_row3 (w : World) (n : Nat) (hn : n ≤ maxLen) : (w.alloc (.cells (madeCells #[.int .i64 0] n) 3)).ownsRow w.heap.size 3 1 (.slice (some ⟨w.heap.size, 0, none⟩) n n) n (List.replicate n (.int .i64 0)) := by
  have h := World.ownsRow_lit (w := w) (base := w.heap.size) (e := 3) (size := 1) (madeCells #[.int .i64 0] n) n (Nat.le_refl _) hn (by rw [size_madeCells, Nat.mul_one])
  rw [toList_madeCells_one] at h
  exact h
theorem own_base {w : World} {e : TypeId} {sz : Nat} {b b' : Nat} {v : Value} {n : Nat} {xs : List Value} (h : w.ownsRow b' e sz v n xs) (hb : b ≤ b') : w.ownsRow b e sz v n xs := by
  obtain ⟨hl, h⟩ := h
  refine ⟨hl, ?_⟩
  rcases h with h | ⟨g, cap, cur, hv, hg, h⟩
  · exact .inl h
  · exact .inr ⟨g, cap, cur, hv, Nat.le_trans hb hg, h⟩

theorem RpAt.weak {w : World} {B B' q : Nat} {ve vd : Value} {ts : List (Int × Int)} (h : RpAt w B' q ve vd ts) (hb : B ≤ B') : RpAt w B q ve vd ts := ⟨Nat.le_trans hb h.base, h.obj, own_base h.ev hb, own_base h.du hb, h.ne⟩
theorem rnew_end {w X : World} {q : Nat} {ve vd : Value} {l : List Int} (hb : BoxE X w.heap.size 0 (.slice none 0 0)) (hr : RpAt X (w.heap.size + 1) q ve vd (newP l)) (hx : Below w.heap.size w X) (hok : EveryOk l) :
    BoxE (fin2 X w.heap.size 0 (.slice none 0 0)) w.heap.size 0 (.slice none 0 0) ∧ RNewIs w l (.returned (.tuple #[.pointer (some ⟨q, 0, none⟩), e0])) (fin2 X w.heap.size 0 (.slice none 0 0)) :=
  ⟨fin2_box hb _ _, .inl ⟨hok, q, ve, vd, rfl, (hr.off (fin2_off X w.heap.size 0 (.slice none 0 0)) (fun e => by have := hr.base; omega) (fun k e1 e2 => by have := (hr.ev.lt k e1).1; omega) (fun k e1 e2 => by have := (hr.du.lt k e1).1; omega)).weak (Nat.le_succ _), fin2_below hx _ (Nat.le_refl _) _ _⟩⟩
theorem newP_zero (l : List Int) : icells ((newP l).map (·.2)) = List.replicate l.length (.int .i64 0) := by
  simp only [icells, newP, List.map_map]
  apply List.ext_getElem (by simp)
  intro i h1 h2
  simp
/-- The copy made first. -/
theorem rnew_a {w w1 w2 : World} {l : List Int} {ve : Value} (hbx : BoxE w1 w.heap.size 0 (.slice none 0 0)) (ho : w2.ownsRow w1.heap.size 3 1 ve l.length (icells l)) (hb : Below w1.heap.size w1 w2) (hl : l.length ≤ 16) :
    RpAt ((w2.alloc (.cells (madeCells #[.int .i64 0] l.length) 3)).alloc (.cells #[ve, .slice (some ⟨w2.heap.size, 0, none⟩) l.length l.length] 57)) (w.heap.size + 1) (w2.heap.size + 1) ve (.slice (some ⟨w2.heap.size, 0, none⟩) l.length l.length) (newP l) := by
  have h1 := lt_heap hbx
  have h2 := hb.size
  refine ⟨by omega, by have := heap_alloc_new (w2.alloc (.cells (madeCells #[.int .i64 0] l.length) 3)) (.cells #[ve, .slice (some ⟨w2.heap.size, 0, none⟩) l.length l.length] 57); simpa using this, ?_, ?_, ?_⟩
  · rw [newP_length, newP_every]
    exact own_base ((ho.alloc _).alloc _) (by omega)
  · rw [newP_length, newP_zero]
    exact own_base ((made_row3 w2 l.length (by unfold maxLen; omega)).alloc _) (by omega)
  · intro k e1 e2
    have := (ho.lt k e1).2
    simp [Value.ownBlock] at e2
    omega
/-- The row of times made first. -/
theorem rnew_b {w w1 w2 : World} {l : List Int} {ve : Value} (hbx : BoxE w1 w.heap.size 0 (.slice none 0 0)) (ho : w2.ownsRow (w1.alloc (.cells (madeCells #[.int .i64 0] l.length) 3)).heap.size 3 1 ve l.length (icells l)) (hb : Below (w1.alloc (.cells (madeCells #[.int .i64 0] l.length) 3)).heap.size (w1.alloc (.cells (madeCells #[.int .i64 0] l.length) 3)) w2) (hl : l.length ≤ 16) :
    RpAt (w2.alloc (.cells #[ve, .slice (some ⟨w1.heap.size, 0, none⟩) l.length l.length] 57)) (w.heap.size + 1) w2.heap.size ve (.slice (some ⟨w1.heap.size, 0, none⟩) l.length l.length) (newP l) := by
  have h1 := lt_heap hbx
  have h2 := hb.size
  simp at h2
  refine ⟨by omega, heap_alloc_new _ _, ?_, ?_, ?_⟩
  · rw [newP_length, newP_every]
    exact own_base (ho.alloc _) (by simp; omega)
  · rw [newP_length, newP_zero]
    exact own_base ((ownsRow_off (made_row3 w1 l.length (by unfold maxLen; omega)) (Off.of_below (fun _ => False) hb) (fun _ _ f => f)).alloc _) (by omega)
  · intro k e1 e2
    have := (ho.lt k e1).1
    simp at this
    simp [Value.ownBlock] at e2
    omega
theorem infoT3 : (Tryd.prog.info? 3).map (fun i => (i.zero, i.size, i.bytes)) = some (some (.int .i64 0), 1, 8) := by kernel_rfl
set_option maxRecDepth 100000 in
set_option maxHeartbeats 4000000 in
theorem rnew_any (v : Value) (l : List Int) (w : World) (hv : IntsAt w v l) (hl : l.length ≤ 16) : Calls Tryd.prog 7 #[v] w (RNewIs w l) := by
  have hms : ∀ W : World, (Instr.makeSlice 22 (.int .i64 (l.length : Int)) (.int .i64 (l.length : Int))).run Tryd.prog W = .ok (.slice (some ⟨W.heap.size, 0, none⟩) l.length l.length) (W.alloc (.cells (madeCells #[.int .i64 0] l.length) 3)) := fun W => run_make_row' 22 3 (.int .i64 0) 8 Tryd.underlying22 infoT3 rfl .i64 .i64 l.length (by omega) (by omega) W
  have HV := Lib.hid hv
  have HL := Lib.hid hl
  have hl' : (l.length : Int) ≤ 16 := by omega
  have HB0 : Hid (Below w.heap.size w (w.alloc (.cells #[.int .i64 0, .slice none 0 0] 35)) ∧ BoxE (w.alloc (.cells #[.int .i64 0, .slice none 0 0] 35)) w.heap.size 0 (.slice none 0 0)) := Lib.hid ⟨below_nw _ _, heap_alloc_new w _⟩
  obtain ⟨ao, cap, rfl, hc⟩ := hv
  clear hc hl
  go_enter Tryd.func7, Tryd.ntmps7
  go_wp2
  go_loopg [4] l.length (fun k s4 wr => ∃ i : Nat, i ≤ l.length ∧ k = l.length - i ∧ s4 = .int .i64 i ∧ Hid ((Below w.heap.size w wr ∧ BoxE wr w.heap.size 0 (.slice none 0 0)) ∧ EveryOk (l.take i)))
  case atStart => exact ⟨0, Nat.zero_le _, rfl, rfl, Lib.hid ⟨HB0.out, fun x hx => by simp at hx⟩⟩
  case round =>
    obtain ⟨i, hi, rfl, rfl, hbr⟩ := hrel
    by_cases hlt : i < l.length
    · obtain ⟨ao', cap', he, hcu⟩ := HV.out.on hbr.out.1.1
      obtain ⟨b, off, hb, pu⟩ := hcu i hlt
      simp only [Value.slice.injEq] at he
      obtain ⟨rfl, _, rfl⟩ := he
      subst hb
      have hi0 : (0 : Int) ≤ (i : Int) := by omega
      have hil : (i : Int) < (l.length : Int) := by omega
      obtain ⟨x, hx⟩ : ∃ x, x = l[i] := ⟨_, rfl⟩
      have HX := Lib.hid hx
      rw [← hx] at pu
      clear hcu hx
      by_cases hq : x < 1 ∨ 10000 < x
      · have HQ : Hid (l[i] < 1 ∨ 10000 < l[i]) := Lib.hid (by rw [← HX.out]; exact hq)
        have hq' : x < 1 ∨ (1 ≤ x ∧ 10000 < x) := by omega
        clear hq
        rcases hq' with hq | ⟨hq, hq2⟩ <;> (
          go_wp2_with fail
          refine (at_box (i : Int) 1 w wr _ hbr.out.1.2 hbr.out.1.1).mono ?_
          rintro e wa ⟨g, rfl, HA⟩
          obtain ⟨c0, c1, f0, f1⟩ := HA.out.box.cells
          have HF : Hid (BoxE (fin2 wa w.heap.size 1 (.slice (some ⟨g, 0, none⟩) 1 1)) w.heap.size 1 (.slice (some ⟨g, 0, none⟩) 1 1) ∧ RNewIs w l (.returned (.tuple #[.pointer none, .agg #[.int .i64 1, .slice (some ⟨g, 0, none⟩) 1 1]])) (fin2 wa w.heap.size 1 (.slice (some ⟨g, 0, none⟩) 1 1))) := Lib.hid ⟨(rnew_key w i 1 g wa HA.out).1, .inr ⟨i, hlt, HQ.out, hbr.out.2, (rnew_key w i 1 g wa HA.out).2⟩⟩
          unfold fin2 at HF
          go_wp2
          generalize (World.setCell (World.setCell wa _ _) _ _) = W at HF ⊢
          obtain ⟨d0, d1, _, _⟩ := HF.out.1.cells
          refine bodyPost_ret (v := .tuple #[.pointer none, .agg #[.int .i64 1, .slice (some ⟨g, 0, none⟩) 1 1]]) ?_ rfl HF.out.2
          simp [results, Tryd.results7, go_sem, d0, d1])
      · have hq1 : 1 ≤ x := by omega
        have hq2 : x ≤ 10000 := by omega
        have HN : Hid (EveryOk (l.take (i + 1))) := Lib.hid (by
          intro y hy
          rw [← List.take_append_getElem hlt, List.mem_append] at hy
          rcases hy with hy | hy
          · exact hbr.out.2 y hy
          · rw [List.mem_singleton] at hy
            rw [hy, ← HX.out]; exact ⟨hq1, hq2⟩)
        clear hq
        go_wp2
        go_roundg (l.length - (i + 1))
        case measure => omega
        case rel => exact ⟨i + 1, by omega, rfl, (by first | exact next_int i (by have := HL.out; omega) | exact congrArg _ (by omega)), Lib.hid ⟨hbr.out.1, HN.out⟩⟩
    · have hil : (l.length : Int) ≤ (i : Int) := by omega
      have e : i = l.length := by omega
      have HOK : Hid (EveryOk l) := Lib.hid (by
        have := hbr.out.2
        rw [e, List.take_length] at this
        exact this)
      have HVR := Lib.hid (HV.out.on hbr.out.1.1)
      clear e
      have HLL : Hid (l.length ≤ 1000000) := Lib.hid (by have := HL.out; omega)
      have HV1 := Lib.hid (HVR.out.on (below_drew wr 1))
      have HV2 := Lib.hid (HV1.out.on (below_nw (wr.drewN 1) (.cells (madeCells #[.int .i64 0] l.length) 3)))
      go_wp2_with fail
      have HBX := Lib.hid hbr.out.1.2
      go_region_with (first
        | (go_at_call 5; refine (copyi_any _ l wr.drew HV1.out HLL.out).mono ?_; rintro e w2 ⟨ve, rfl, ho, hb⟩; have F1 := Lib.hid (And.intro ho hb); obtain ⟨ae, ce, rfl⟩ := rslice ho; have hbx := (((HBX.out.on (below_drew wr 1)).on hb).on (below_nw w2 (.cells (madeCells #[.int .i64 0] l.length) 3))).on (below_nw _ (.cells #[.slice ae l.length ce, .slice (some ⟨w2.heap.size, 0, none⟩) l.length l.length] 57)); obtain ⟨c0, c1, f0, f1⟩ := hbx.cells; clear ho hb hbx)
        | (go_at_call 5; refine (copyi_any _ l (wr.drew.alloc (.cells (madeCells #[.int .i64 0] l.length) 3)) HV2.out HLL.out).mono ?_; rintro e w2 ⟨ve, rfl, ho, hb⟩; have F2 := Lib.hid (And.intro ho hb); obtain ⟨ae, ce, rfl⟩ := rslice ho; have hbx := (((HBX.out.on (below_drew wr 1)).on (below_nw _ (.cells (madeCells #[.int .i64 0] l.length) 3))).on hb).on (below_nw w2 (.cells #[.slice ae l.length ce, .slice (some ⟨wr.heap.size, 0, none⟩) l.length l.length] 57)); obtain ⟨c0, c1, f0, f1⟩ := hbx.cells; clear ho hb hbx))
      · have hr := rnew_a (HBX.out.on (below_drew wr 1)) F1.out.1 F1.out.2 HL.out
        have HF := Lib.hid (rnew_end ((((HBX.out.on (below_drew wr 1)).on F1.out.2).on (below_nw w2 (.cells (madeCells #[.int .i64 0] l.length) 3))).on (below_nw _ (.cells #[.slice ae l.length ce, .slice (some ⟨w2.heap.size, 0, none⟩) l.length l.length] 57))) hr ((((hbr.out.1.1.trans ((below_drew wr 1).mono hbr.out.1.1.size)).trans (F1.out.2.mono (by have := hbr.out.1.1.size; simpa using this))).alloc (by have := hbr.out.1.1.size; have := F1.out.2.size; simp at this; omega) _).alloc (by have := hbr.out.1.1.size; have := F1.out.2.size; simp at this ⊢; omega) _) HOK.out)
        clear hr c0 c1 f0 f1
        unfold fin2 at HF
        generalize (World.setCell (World.setCell _ _ _) _ _) = W at HF ⊢
        obtain ⟨d0, d1, _, _⟩ := HF.out.1.cells
        go_wp2
        refine bodyPost_ret (v := .tuple #[.pointer (some ⟨w2.heap.size + 1, 0, none⟩), e0]) ?_ rfl HF.out.2
        simp [results, Tryd.results7, go_sem, d0, d1, e0]
      · have hr := rnew_b (HBX.out.on (below_drew wr 1)) F2.out.1 F2.out.2 HL.out
        have HF := Lib.hid (rnew_end ((((HBX.out.on (below_drew wr 1)).on (below_nw _ (.cells (madeCells #[.int .i64 0] l.length) 3))).on F2.out.2).on (below_nw w2 (.cells #[.slice ae l.length ce, .slice (some ⟨wr.heap.size, 0, none⟩) l.length l.length] 57))) hr ((((hbr.out.1.1.trans ((below_drew wr 1).mono hbr.out.1.1.size)).alloc (by have := hbr.out.1.1.size; simpa using this) _).trans (F2.out.2.mono (by have := hbr.out.1.1.size; simp; omega))).alloc (by have := hbr.out.1.1.size; have := F2.out.2.size; simp at this; omega) _) HOK.out)
        clear hr c0 c1 f0 f1
        unfold fin2 at HF
        generalize (World.setCell (World.setCell _ _ _) _ _) = W at HF ⊢
        obtain ⟨d0, d1, _, _⟩ := HF.out.1.cells
        go_wp2
        refine bodyPost_ret (v := .tuple #[.pointer (some ⟨w2.heap.size, 0, none⟩), e0]) ?_ rfl HF.out.2
        simp [results, Tryd.results7, go_sem, d0, d1, e0]
end Go.Proofs.YtcbiomcbkmdhaaaDoor
