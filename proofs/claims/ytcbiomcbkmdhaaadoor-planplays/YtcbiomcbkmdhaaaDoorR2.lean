/- The document's Plan in memory: NewPlan, Next, Done, Due. -/
import Derived.Test.YtcbiomcbkmdhaaaDoorR1
import Derived.Deep.AppendLies
namespace Go.Proofs.YtcbiomcbkmdhaaaDoor
open Go.RowKit Go.Extern.Stop Go.Stop Go.Extern

/-- The document's Plan: its intervals and its times in rows of its own. -/
structure RpAt (w : World) (B q : Nat) (ve vd : Value) (ts : List (Int × Int)) : Prop where
  base : B ≤ q
  obj : w.heap[q]? = some (.cells #[ve, vd] 57 (0, 0))
  ev : w.ownsRow B 3 1 ve ts.length (icells (ts.map (·.1)))
  du : w.ownsRow B 3 1 vd ts.length (icells (ts.map (·.2)))
  ne : ∀ k, ve.ownBlock = some k → vd.ownBlock ≠ some k
section
variable {w w' : World} {B q : Nat} {ve vd : Value} {ts : List (Int × Int)}
theorem RpAt.c0 (h : RpAt w B q ve vd ts) : w.cell? ⟨q, 0, none⟩ = some ve := by rw [cell_of_row _ _ _ _ _ _ h.obj]; rfl
theorem RpAt.c1 (h : RpAt w B q ve vd ts) : w.cell? ⟨q, 1, none⟩ = some vd := by rw [cell_of_row _ _ _ _ _ _ h.obj]; rfl
theorem RpAt.lt (h : RpAt w B q ve vd ts) : q < w.heap.size := lt_heap h.obj
theorem RpAt.off {S : Nat → Prop} (h : RpAt w B q ve vd ts) (hk : Off S w w') (hr : ¬ S q) (h1 : ∀ k, ve.ownBlock = some k → ¬ S k) (h2 : ∀ k, vd.ownBlock = some k → ¬ S k) : RpAt w' B q ve vd ts :=
  ⟨h.base, (hk.block q h.lt hr).trans h.obj, ownsRow_off h.ev hk h1, ownsRow_off h.du hk h2, h.ne⟩
theorem RpAt.on (h : RpAt w B q ve vd ts) (hb : Below w.heap.size w w') : RpAt w' B q ve vd ts := h.off (Off.of_below (fun _ => False) hb) (fun f => f) (fun _ _ f => f) (fun _ _ f => f)
end
/-- One number of a row of one's own. -/
theorem own_int {w : World} {B g c n : Nat} {l : List Int} (h : w.ownsRow B 3 1 (.slice (some ⟨g, 0, none⟩) n c) n (icells l)) (hl : l.length = n) (i : Nat) (hi : i < n) : w.cell? ⟨g, i, none⟩ = some (.int .i64 (l[i]'(by omega))) := by
  rw [h.cellAt i (by omega)]
  exact icells_get l i (by omega)
theorem RpAt.eform {w : World} {B q : Nat} {ve vd : Value} {ts : List (Int × Int)} (h : RpAt w B q ve vd ts) (i : Nat) (hi : i < ts.length) : ∃ g c, ve = .slice (some ⟨g, 0, none⟩) ts.length c ∧ w.cell? ⟨g, i, none⟩ = some (.int .i64 (ts.getD i (0, 0)).1) := by
  obtain ⟨g, c, hv, _⟩ := h.ev.form (show 0 < ts.length by omega)
  have he := h.ev
  rw [hv] at he
  refine ⟨g, c, hv, ?_⟩
  rw [own_int he (by simp) i hi]
  simp [List.getD, hi]
theorem RpAt.dform {w : World} {B q : Nat} {ve vd : Value} {ts : List (Int × Int)} (h : RpAt w B q ve vd ts) (i : Nat) (hi : i < ts.length) : ∃ g c, vd = .slice (some ⟨g, 0, none⟩) ts.length c ∧ w.cell? ⟨g, i, none⟩ = some (.int .i64 (dueP ts i)) := by
  obtain ⟨g, c, hv, _⟩ := h.du.form (show 0 < ts.length by omega)
  have he := h.du
  rw [hv] at he
  refine ⟨g, c, hv, ?_⟩
  rw [own_int he (by simp) i hi]
  unfold dueP
  simp [List.getD, hi]
theorem rslice {w : World} {B : Nat} {v : Value} {n : Nat} {xs : List Value} (h : w.ownsRow B 3 1 v n xs) : ∃ ao c, v = .slice ao n c := row_slice' h

set_option maxRecDepth 100000 in
set_option maxHeartbeats 2000000 in
theorem rdue_yes (B q : Nat) (ve vd : Value) (ts : List (Int × Int)) (i : Nat) (w : World) (h : RpAt w B q ve vd ts) (hi : i < ts.length) : Calls Tryd.prog 16 #[.pointer (some ⟨q, 0, none⟩), .int .i64 (i : Int)] w fun e w' => e = .returned (.tuple #[.int .i64 (dueP ts i), .bool true]) ∧ Below w.heap.size w w' := by
  have c1 := h.c1
  obtain ⟨g, c, rfl, p1⟩ := h.dform i hi
  have hi0 : (0 : Int) ≤ (i : Int) := by omega
  have hil : (i : Int) < (ts.length : Int) := by omega
  clear h
  go_enter Tryd.func16, Tryd.ntmps16
  go_wp2_with fail
  all_goals try go_quiet (fail)
  all_goals go_wp2
  all_goals go_ret2
  all_goals exact ⟨rfl, by first | exact Below.refl _ _ | exact below_drew _ _⟩
set_option maxRecDepth 100000 in
set_option maxHeartbeats 2000000 in
theorem rdue_no (B q : Nat) (ve vd : Value) (ts : List (Int × Int)) (i : Int) (w : World) (h : RpAt w B q ve vd ts) (hi : hasP ts i = false) : Calls Tryd.prog 16 #[.pointer (some ⟨q, 0, none⟩), .int .i64 i] w fun e w' => e = .returned (.tuple #[.int .i64 0, .bool false]) ∧ Below w.heap.size w w' := by
  have c1 := h.c1
  obtain ⟨ao, c, rfl⟩ := rslice h.du
  have hc : i < 0 ∨ (0 ≤ i ∧ (ts.length : Int) ≤ i) := by
    have : ¬ (0 ≤ i ∧ i < (ts.length : Int)) := by simpa [hasP] using hi
    omega
  clear h hi
  rcases hc with hc | ⟨hc, hc2⟩ <;> (
    go_enter Tryd.func16, Tryd.ntmps16
    go_wp2_with fail
    all_goals try go_quiet (fail)
    all_goals go_wp2
    all_goals go_ret2
    all_goals exact ⟨rfl, by first | exact Below.refl _ _ | exact below_drew _ _⟩)

def e0 : Value := .agg #[.int .i64 0, .slice none 0 0]
theorem icells_set (l : List Int) (i : Nat) (x : Int) : (icells l).set i (.int .i64 x) = icells (l.set i x) := by simp [icells, List.map_set]
/-- The document's Done: its row of times alone has turned. -/
def RDoneOk (w : World) (B q : Nat) (ve vd : Value) (ts : List (Int × Int)) (e : Ending) (w' : World) : Prop := e = .returned e0 ∧ RpAt w' B q ve vd ts ∧ Off (fun k => vd.ownBlock = some k) w w'
set_option maxRecDepth 100000 in
set_option maxHeartbeats 4000000 in
theorem rdone_ok (B q : Nat) (ve vd : Value) (ts : List (Int × Int)) (i : Nat) (now : Int) (w : World) (h : RpAt w B q ve vd ts) (hi : i < ts.length) (h0 : 0 ≤ now) (h1 : now ≤ 1099511627776) (e0' : 0 ≤ (ts.getD i (0, 0)).1) (e1 : (ts.getD i (0, 0)).1 ≤ 10000) :
    Calls Tryd.prog 11 #[.pointer (some ⟨q, 0, none⟩), .int .i64 (i : Int), .int .i64 now] w (RDoneOk w B q ve vd (doneP ts i now)) := by
  obtain ⟨wx, hwx⟩ : ∃ wx, wx = w.alloc (.cells #[.int .i64 0, .slice none 0 0] 35) := ⟨_, rfl⟩
  have X0 : Hid (Below w.heap.size w wx) := Lib.hid (by rw [hwx]; exact below_nw w _)
  have B0 : Hid (BoxE wx w.heap.size 0 (.slice none 0 0)) := Lib.hid (by rw [hwx]; exact heap_alloc_new w _)
  have H1 := Lib.hid (h.on X0.out)
  have HLT := Lib.hid h.lt
  obtain ⟨x, hx⟩ : ∃ x, x = (ts.getD i (0, 0)).1 := ⟨_, rfl⟩
  rw [← hx] at e0' e1
  have hw : IntKind.i64.wrap (now + x) = now + x := by rw [IntKind.wrap_i64]; omega
  have c0 := H1.out.c0
  have c1 := H1.out.c1
  obtain ⟨ge, ce, hve, p0⟩ := H1.out.eform i hi
  obtain ⟨gd, cd, hvd, p1⟩ := H1.out.dform i hi
  rw [hve] at c0
  rw [hvd] at c1
  rw [← hx] at p0
  have hi0 : (0 : Int) ≤ (i : Int) := by omega
  have hil : (i : Int) < (ts.length : Int) := by omega
  have hf : wx.frozen? ⟨gd, i, none⟩ = false := by
    have := H1.out.du
    rw [hvd] at this
    exact this.frozenAt _
  have HGD : Hid (gd < w.heap.size) := Lib.hid (h.du.lt gd (by rw [hvd]; rfl)).2
  have HR : ∀ n, Hid (RDoneOk w B q ve vd (doneP ts i now) (.returned e0) (fin2 ((wx.drewN n).setCell ⟨gd, i, none⟩ (.int .i64 (now + x))) w.heap.size 0 (.slice none 0 0)) ∧ BoxE (fin2 ((wx.drewN n).setCell ⟨gd, i, none⟩ (.int .i64 (now + x))) w.heap.size 0 (.slice none 0 0)) w.heap.size 0 (.slice none 0 0)
    ∧ BoxE ((wx.drewN n).setCell ⟨gd, i, none⟩ (.int .i64 (now + x))) w.heap.size 0 (.slice none 0 0)) := fun n => Lib.hid (by
    have hs : Off (fun k => vd.ownBlock = some k) (wx.drewN n) ((wx.drewN n).setCell ⟨gd, i, none⟩ (.int .i64 (now + x))) := Off.set _ _ _ _ (by rw [hvd]; rfl)
    have h2 : RpAt (wx.drewN n) B q ve vd ts := H1.out.on (below_drew _ _)
    have hbx : BoxE ((wx.drewN n).setCell ⟨gd, i, none⟩ (.int .i64 (now + x))) w.heap.size 0 (.slice none 0 0) := (hs.block _ (lt_heap (B0.out.on (below_drew _ _))) (fun e => by have := (h.du.lt _ e).2; omega)).trans (B0.out.on (below_drew _ _))
    have h3 : RpAt ((wx.drewN n).setCell ⟨gd, i, none⟩ (.int .i64 (now + x))) B q ve vd (doneP ts i now) := by
      refine ⟨h2.base, (hs.block q h2.lt (fun e => row_no h2.du h2.obj (by decide) e)).trans h2.obj, ?_, ?_, h2.ne⟩
      · rw [doneP_length, every_done]
        exact ownsRow_off h2.ev hs (fun k e1 e2 => h2.ne k e1 e2)
      · have h4 := h2.du
        rw [hvd] at h4 ⊢
        have := (h4.stored i (.int .i64 (now + x))).1
        rw [icells_set] at this
        rw [doneP_length]
        have he : (doneP ts i now).map (·.2) = (ts.map (·.2)).set i (now + x) := by
          unfold doneP
          rw [List.map_set, hx]
        rw [he]
        exact this
    have h5 : Off (fun k => k = w.heap.size) ((wx.drewN n).setCell ⟨gd, i, none⟩ (.int .i64 (now + x))) (fin2 ((wx.drewN n).setCell ⟨gd, i, none⟩ (.int .i64 (now + x))) w.heap.size 0 (.slice none 0 0)) := fin2_off _ _ _ _
    refine ⟨⟨rfl, h3.off h5 (fun e => by have := HLT.out; omega) (fun k e1 e2 => by have := (h.ev.lt k e1).2; omega) (fun k e1 e2 => by have := (h.du.lt k e1).2; omega), ?_⟩, fin2_box hbx _ _, hbx⟩
    have h6 : Off (fun k => vd.ownBlock = some k) w ((wx.drewN n).setCell ⟨gd, i, none⟩ (.int .i64 (now + x))) := ((Off.of_below _ X0.out).trans (Off.of_below _ (below_drew _ _))).trans hs
    refine ⟨h5.os.trans h6.os, h5.tape.trans h6.tape, h5.output.trans h6.output, Nat.le_trans h6.size h5.size, fun k hk hn => (h5.block k (Nat.lt_of_lt_of_le hk h6.size) (fun e => by omega)).trans (h6.block k hk hn)⟩)
  have HB1 : Hid (BoxE (wx.setCell ⟨gd, i, none⟩ (.int .i64 (now + x))) w.heap.size 0 (.slice none 0 0)) := Lib.hid (HR 1).out.2.2
  have HALL : Hid (RDoneOk w B q ve vd (doneP ts i now) (.returned e0) (fin2 (wx.setCell ⟨gd, i, none⟩ (.int .i64 (now + x))) w.heap.size 0 (.slice none 0 0)).drew ∧ BoxE (fin2 (wx.setCell ⟨gd, i, none⟩ (.int .i64 (now + x))) w.heap.size 0 (.slice none 0 0)).drew w.heap.size 0 (.slice none 0 0)) := Lib.hid ⟨(HR 1).out.1, (HR 1).out.2.1⟩
  have c1w : (w.alloc (.cells #[.int .i64 0, .slice none 0 0] 35)).cell? ⟨q, 1, none⟩ = some (.slice (some ⟨gd, 0, none⟩) ts.length cd) := by rw [← hwx]; exact c1
  clear h hx HR
  go_enter Tryd.func11, Tryd.ntmps11
  go_wp2
  rw [← hwx]
  clear hwx c1w
  go_still_tail 14, (by kernel_rfl)
  obtain ⟨b0, b1, bf0, bf1⟩ := HB1.out.cells
  go_wp2
  have HF := HALL
  unfold fin2 at HF
  generalize (World.setCell (World.setCell _ _ _) _ _).drew = W at HF ⊢
  obtain ⟨d0, d1, _, _⟩ := HF.out.2.cells
  refine bodyPost_ret (v := e0) ?_ rfl HF.out.1
  simp [results, Tryd.results11, go_sem, d0, d1, e0]
end Go.Proofs.YtcbiomcbkmdhaaaDoor
