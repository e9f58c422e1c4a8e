/- yardref.At, yardref7.Frame: the document's answers; memory that was there stands. -/
import Derived.Test.YthcehcfeedikkaaDoorLong
import Derived.Test.YthcehcfeedikkaaDoorLe
namespace Go.Proofs.YthcehcfeedikkaaDoor
open Go.RowKit Go.Extern.Stop Go.Stop Go.Extern

theorem at_any (s : ByteArray) (p c : Int) (w : World) : Calls Tryd.prog 15 #[.string s, .int .i64 p, .int .i64 c] w fun e w' => (∃ g : Nat, e = .returned (.agg #[.int .i64 c, .slice (some ⟨g, 0, none⟩) 1 1]) ∧ StepsOwn w' (.slice (some ⟨g, 0, none⟩) 1 1) [(s, p)] ∧ w.heap.size < g) ∧ Below w.heap.size w w' := by
  go_enter Tryd.func15, Tryd.ntmps15
  go_wp2
  refine bodyPost_ret (v := .agg #[.int .i64 c, .slice (some ⟨w.heap.size + 1, 0, none⟩) 1 1]) ?_ rfl ⟨⟨w.heap.size + 1, rfl, ?_, by omega⟩, ?_⟩
  · simp [results, Tryd.results15, go_sem]
  · refine ⟨some ⟨w.heap.size + 1, 0, none⟩, 1, rfl, fun i hi => ?_⟩
    have hi0 : i = 0 := by simpa using hi
    subst hi0
    exact ⟨w.heap.size + 1, rfl, by simp, by simp, by simp⟩
  · exact two_belowW _ _ _

/-- An Err's box. -/
def BoxE (w : World) (k : Nat) (c : Int) (v : Value) : Prop := w.heap[k]? = some (.cells #[.int .i64 c, v] 32 (0, 0))
theorem BoxE.on {w w' : World} {k : Nat} {c : Int} {v : Value} (h : BoxE w k c v) (hb : Below w.heap.size w w') : BoxE w' k c v := (hb.block k (lt_heap h)).trans h
theorem BoxE.cells {w : World} {k : Nat} {c : Int} {v : Value} (h : BoxE w k c v) : w.cell? ⟨k, 0, none⟩ = some (.int .i64 c) ∧ w.cell? ⟨k, 1, none⟩ = some v ∧ w.frozen? ⟨k, 0, none⟩ = false ∧ w.frozen? ⟨k, 1, none⟩ = false :=
  ⟨by rw [cell_of_row _ _ _ _ _ _ h]; rfl, by rw [cell_of_row _ _ _ _ _ _ h]; rfl, frozen_of_row _ _ _ _ _ h, frozen_of_row _ _ _ _ _ h⟩
def fin2 (w4 : World) (k : Nat) (c : Int) (V : Value) : World := (w4.setCell ⟨k, 0, none⟩ (.int .i64 c)).setCell ⟨k, 1, none⟩ V
theorem fin2_below {w w4 : World} (h : Below w.heap.size w w4) (k : Nat) (hk : w.heap.size ≤ k) (c : Int) (V : Value) : Below w.heap.size w (fin2 w4 k c V) := (h.setCell hk _).setCell hk _
theorem fin2_box {w4 : World} {k : Nat} {c0 : Int} {V0 : Value} (h : BoxE w4 k c0 V0) (c : Int) (V : Value) : BoxE (fin2 w4 k c V) k c V := by
  unfold BoxE fin2
  rw [heap_set _ _ _ _ _ _ _ (heap_set _ _ _ _ _ _ _ h)]
  rfl
theorem fin2_off (w4 : World) (k : Nat) (c : Int) (V : Value) : Off (fun j => j = k) w4 (fin2 w4 k c V) := by
  unfold fin2
  exact Off.trans (Off.set (fun j => j = k) w4 ⟨k, 0, none⟩ _ rfl) (Off.set (fun j => j = k) _ ⟨k, 1, none⟩ _ rfl)
theorem StepsOwn.off {w w' : World} {g k : Nat} {x : ByteArray × Int} (h : StepsOwn w (.slice (some ⟨g, 0, none⟩) 1 1) [x]) (ho : Off (fun j => j = k) w w') (hg : g ≠ k) : StepsOwn w' (.slice (some ⟨g, 0, none⟩) 1 1) [x] := by
  obtain ⟨ao, cap, hv, h⟩ := h
  refine ⟨ao, cap, hv, fun i hi => ?_⟩
  obtain ⟨g', ha, hlt, h0, h1⟩ := h i hi
  simp only [Value.slice.injEq] at hv
  obtain ⟨e1, _, _⟩ := hv
  rw [ha] at e1
  obtain rfl : g = g' := by simpa using e1
  have hb : w'.heap[g]? = w.heap[g]? := ho.block g hlt hg
  have hc : ∀ o, w'.cell? ⟨g, o, none⟩ = w.cell? ⟨g, o, none⟩ := fun o => by simp only [World.cell?, hb]
  exact ⟨g, ha, Nat.lt_of_lt_of_le hlt ho.size, (hc _).trans h0, (hc _).trans h1⟩

def e0 : Value := .agg #[.int .i64 0, .slice none 0 0]
def RfOk (w : World) (l : List UInt8) (e : Ending) (w' : World) : Prop := ∃ v, e = .returned (.tuple #[v, e0]) ∧ w'.ownsRow w.heap.size 5 1 v l.length (bcells l) ∧ Below w.heap.size w w'
def RfNo (w : World) (x c : Int) (e : Ending) (w' : World) : Prop := ∃ g : Nat, e = .returned (.tuple #[.slice none 0 0, .agg #[.int .i64 c, .slice (some ⟨g, 0, none⟩) 1 1]]) ∧ StepsOwn w' (.slice (some ⟨g, 0, none⟩) 1 1) [(sRtu, x)] ∧ Below w.heap.size w w'

/-- What is known behind At, where a box stands. -/
structure AtBox (w wa : World) (k : Nat) (x c : Int) (g : Nat) : Prop where
  box : BoxE wa k 0 (.slice none 0 0)
  steps : StepsOwn wa (.slice (some ⟨g, 0, none⟩) 1 1) [(sRtu, x)]
  ne : g ≠ k
  below : Below w.heap.size w wa
theorem at_box (x c : Int) (w w0 : World) (k : Nat) (hb : BoxE w0 k 0 (.slice none 0 0)) (hw : Below w.heap.size w w0) : Calls Tryd.prog 15 #[.string sRtu, .int .i64 x, .int .i64 c] w0 fun e wa => ∃ g : Nat, e = .returned (.agg #[.int .i64 c, .slice (some ⟨g, 0, none⟩) 1 1]) ∧ Hid (AtBox w wa k x c g) := by
  refine (at_any sRtu x c w0).mono ?_
  rintro e wa ⟨⟨g, rfl, hs, hg⟩, hbl⟩
  exact ⟨g, rfl, Lib.hid ⟨hb.on hbl, hs, fun e => by have := lt_heap hb; omega, hw.trans (hbl.mono hw.size)⟩⟩

set_option maxRecDepth 100000 in
set_option maxHeartbeats 2000000 in
theorem rframe_no (a : Int) (ao : Option Addr) (n cap : Nat) (w : World) (h : frCode a n ≠ 0) : Calls Tryd.prog 9 #[.int .i64 a, .slice ao n cap] w (RfNo w n (frCode a n)) := by
  have HC : Hid (frCode a n = if a < 0 ∨ 255 < a then 1 else if n = 0 then 2 else if 253 < n then 3 else 0) := Lib.hid rfl
  obtain ⟨wx, hwx⟩ : ∃ wx, wx = w.alloc (.cells #[.int .i64 0, .slice none 0 0] 32) := ⟨_, rfl⟩
  have X0 : Hid (Below w.heap.size w wx) := Lib.hid (by rw [hwx]; exact below_new w _)
  have B0 : Hid (BoxE wx w.heap.size 0 (.slice none 0 0)) := Lib.hid (by rw [hwx]; exact heap_alloc_new w _)
  have key : ∀ (c : Int) (g : Nat) (wa : World), Hid (frCode a n = c) → Hid (AtBox w wa w.heap.size n c g) → Hid (BoxE (fin2 wa w.heap.size c (.slice (some ⟨g, 0, none⟩) 1 1)) w.heap.size c (.slice (some ⟨g, 0, none⟩) 1 1) ∧ RfNo w n (frCode a n) (.returned (.tuple #[.slice none 0 0, .agg #[.int .i64 c, .slice (some ⟨g, 0, none⟩) 1 1]])) (fin2 wa w.heap.size c (.slice (some ⟨g, 0, none⟩) 1 1))) := fun c g wa hc ha =>
    Lib.hid ⟨fin2_box ha.out.box _ _, g, by rw [hc.out], ha.out.steps.off (fin2_off _ _ _ _) ha.out.ne, fin2_below ha.out.below _ (Nat.le_refl _) _ _⟩
  have HK := Lib.hid key
  clear key
  by_cases h1 : a < 0 ∨ 255 < a
  · have HC1 : Hid (frCode a n = 1) := Lib.hid (by rw [HC.out, if_pos h1])
    clear HC h
    rcases h1 with h1 | h1 <;> (
      go_enter Tryd.func9, Tryd.ntmps9
      go_wp2_with fail
      rw [← hwx]
      clear hwx
      refine (at_box n 1 w wx _ B0.out X0.out).mono ?_
      rintro e wa ⟨g, rfl, HA⟩
      obtain ⟨c0, c1, f0, f1⟩ := HA.out.box.cells
      have HF := HK.out 1 g wa HC1 HA
      unfold fin2 at HF
      go_wp2
      generalize (World.setCell (World.setCell wa _ _) _ _) = W at HF ⊢
      obtain ⟨d0, d1, _, _⟩ := HF.out.1.cells
      refine bodyPost_ret (v := .tuple #[.slice none 0 0, .agg #[.int .i64 1, .slice (some ⟨g, 0, none⟩) 1 1]]) ?_ rfl HF.out.2
      simp [results, Tryd.results9, go_sem, d0, d1])
  · by_cases h2 : n = 0
    · have HC1 : Hid (frCode a n = 2) := Lib.hid (by rw [HC.out, if_neg h1, if_pos h2])
      have h3 : 0 ≤ a ∧ a ≤ 255 := by omega
      subst h2
      clear HC h h1
      go_enter Tryd.func9, Tryd.ntmps9
      go_wp2_with fail
      rw [← hwx]
      clear hwx
      refine (at_box 0 2 w wx _ B0.out X0.out).mono ?_
      rintro e wa ⟨g, rfl, HA⟩
      obtain ⟨c0, c1, f0, f1⟩ := HA.out.box.cells
      have HF := HK.out 2 g wa HC1 HA
      unfold fin2 at HF
      go_wp2
      generalize (World.setCell (World.setCell wa _ _) _ _) = W at HF ⊢
      obtain ⟨d0, d1, _, _⟩ := HF.out.1.cells
      refine bodyPost_ret (v := .tuple #[.slice none 0 0, .agg #[.int .i64 2, .slice (some ⟨g, 0, none⟩) 1 1]]) ?_ rfl HF.out.2
      simp [results, Tryd.results9, go_sem, d0, d1]
    · by_cases h3 : 253 < n
      · have HC1 : Hid (frCode a n = 3) := Lib.hid (by rw [HC.out, if_neg h1, if_neg h2, if_pos h3])
        have h3 : 0 ≤ a ∧ a ≤ 255 := by omega
        have h4 : ((n : Int) == 0) = false := beq_eq_false_iff_ne.2 (by omega)
        have h5 : (253 : Int) < (n : Int) := by omega
        clear HC h h1 h2
        go_enter Tryd.func9, Tryd.ntmps9
        go_wp2_with fail
        rw [← hwx]
        clear hwx
        refine (at_box n 3 w wx _ B0.out X0.out).mono ?_
        rintro e wa ⟨g, rfl, HA⟩
        obtain ⟨c0, c1, f0, f1⟩ := HA.out.box.cells
        have HF := HK.out 3 g wa HC1 HA
        unfold fin2 at HF
        go_wp2
        generalize (World.setCell (World.setCell wa _ _) _ _) = W at HF ⊢
        obtain ⟨d0, d1, _, _⟩ := HF.out.1.cells
        refine bodyPost_ret (v := .tuple #[.slice none 0 0, .agg #[.int .i64 3, .slice (some ⟨g, 0, none⟩) 1 1]]) ?_ rfl HF.out.2
        simp [results, Tryd.results9, go_sem, d0, d1]
      · exact absurd (by rw [HC.out, if_neg h1, if_neg h2, if_neg h3]) h
end Go.Proofs.YthcehcfeedikkaaDoor
