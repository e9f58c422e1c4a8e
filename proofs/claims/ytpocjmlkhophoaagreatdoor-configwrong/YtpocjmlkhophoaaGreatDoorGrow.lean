/- append of elements that lie somewhere onto a row of the call's own, for elements of any number of cells; what a row of one's own is afterwards. -/
import Derived.Test.YtpocjmlkhophoaaGreatDoorCk4
import Derived.Maps.AppendAt
import Derived.Lib.AppendZeros
namespace Go.Proofs.YtpocjmlkhophoaaGreatDoor
open Go.RowKit Go.Extern.Stop Go.Stop Go.Extern

structure AppT (t e k b : Nat) : Prop where
  und : Tryz.prog.underlying t = some (.slice e)
  inf : ∃ i z, Tryz.prog.info? e = some i ∧ i.zero = some z ∧ i.size = k ∧ i.bytes = b ∧ z.cells.size = k
  pos : 0 < k
theorem appT_int : AppT 23 3 1 8 := ⟨Tryz.underlying23, by
  obtain ⟨i, h1, h2, h3, h4⟩ := info_parts (show (Tryz.prog.info? 3).map (fun i => (i.zero, i.size, i.bytes)) = some (some (.int .i64 0), 1, 8) by kernel_rfl)
  exact ⟨i, _, h1, h2, h3, h4, rfl⟩, by omega⟩
theorem appT_poll : AppT 24 68 5 40 := ⟨Tryz.underlying24, by
  obtain ⟨i, h1, h2, h3, h4⟩ := info_parts (show (Tryz.prog.info? 68).map (fun i => (i.zero, i.size, i.bytes)) = some (some (.agg #[.int .i64 0, .int .i64 0, .int .i64 0, .int .i64 0, .int .i64 0]), 5, 40) by kernel_rfl)
  exact ⟨i, _, h1, h2, h3, h4, rfl⟩, by omega⟩
theorem appT_point : AppT 25 62 8 64 := ⟨Tryz.underlying25, by
  obtain ⟨i, h1, h2, h3, h4⟩ := info_parts (show (Tryz.prog.info? 62).map (fun i => (i.zero, i.size, i.bytes)) = some (some (.agg #[.int .i64 0, .int .i64 0, .int .i64 0, .int .i64 0, .int .i64 0, .int .i64 0, .int .i64 0, .int .i64 0]), 8, 64) by kernel_rfl)
  exact ⟨i, _, h1, h2, h3, h4, rfl⟩, by omega⟩
theorem appT_ctl : AppT 26 70 3 24 := ⟨Tryz.underlying26, by
  obtain ⟨i, h1, h2, h3, h4⟩ := info_parts (show (Tryz.prog.info? 70).map (fun i => (i.zero, i.size, i.bytes)) = some (some (.agg #[.int .i64 0, .int .i64 0, .int .i64 0]), 3, 24) by kernel_rfl)
  exact ⟨i, _, h1, h2, h3, h4, rfl⟩, by omega⟩
theorem appT_bool : AppT 76 4 1 1 := ⟨Tryz.underlying76, by
  obtain ⟨i, h1, h2, h3, h4⟩ := info_parts (show (Tryz.prog.info? 4).map (fun i => (i.zero, i.size, i.bytes)) = some (some (.bool false), 1, 1) by kernel_rfl)
  exact ⟨i, _, h1, h2, h3, h4, rfl⟩, by omega⟩

/-- What appending leaves: a row of one's own; nothing but the old row is turned. -/
def GrownIs (W : World) (B e k : Nat) (xo : Value) (n : Nat) (cs : List Value) (v' : Value) (w' : World) : Prop :=
  w'.ownsRow B e k v' n cs ∧ Off (fun i => xo.ownBlock = some i) W w' ∧ (v'.ownBlock = xo.ownBlock ∨ v'.ownBlock = some W.heap.size)
theorem app_row {t e k b : Nat} (hT : AppT t e k b) (W : World) (B : Nat) (xo y : Value) (n m : Nat) (cs us : List Value) (hown : W.ownsRow B e k xo n cs) (hy : LiesAt W y m us) (hus : us.length = m * k) (h1 : ∀ u ∈ us, u.oneCell' = true) (hB : B ≤ W.heap.size) (hl : n + m ≤ 100000000) (hb : b ≤ 1000) :
    ∃ v' w', (Builtin.append_ #[t, t] t #[xo, y]).run Tryz.prog W = .ok v' w' ∧ GrownIs W B e k xo (n + m) (cs ++ us) v' w' := by
  obtain ⟨i0, z, hi0, hz0, hz1, hz2, hz3⟩ := hT.inf
  obtain ⟨ao, cap, rfl, hmc, hc⟩ := hy
  have hpos := hT.pos
  have hby : (n + m) * b ≤ 140737488355328 := by
    have := Nat.mul_le_mul hl hb
    omega
  cases ao with
  | some a =>
    obtain ⟨v', w', q1, q2, q3, _, q5⟩ := run_append_own_at (P := Tryz.prog) W B t t e i0 z k b hT.und hi0 hz0 hz1 hz2 hz3 hpos xo n cs hown a m cap us hus (fun j u hj => by
      obtain ⟨b', off, e', hk⟩ := hc j u hj
      cases e'
      rw [add_at]
      exact hk) h1 (by unfold maxLen; omega) hby hB
    exact ⟨v', w', q1, q2, Off.of_grown q3, q5⟩
  | none =>
    have hu : us = [] := by
      cases us with
      | nil => rfl
      | cons x l => obtain ⟨b', off, e', _⟩ := hc 0 x rfl; cases e'
    subst hu
    have hm : m = 0 := by
      rcases Nat.eq_zero_or_pos m with h | h
      · exact h
      · have := Nat.mul_pos h hpos
        simp at hus
        omega
    subst hm
    refine ⟨xo, W, ?_, by rw [List.append_nil]; exact hown, Off.refl _ _, .inl rfl⟩
    obtain ⟨ax, nx, cp, hxo, hcp⟩ : ∃ ax nx cp, xo = .slice ax nx cp ∧ nx ≤ cp := by
      rcases hown.2 with ⟨h1, h2⟩ | ⟨g, cap, cur, h1, _, _, h2, _⟩
      · exact ⟨none, 0, 0, h1, Nat.le_refl _⟩
      · exact ⟨_, _, cap, h1, h2⟩
    subst hxo
    cases ax <;> simp [Builtin.append_, run_underlying hT.und, sizeOf, typeInfo, hi0, Builtin.lenOf, Builtin.firstCells, storeCells, hcp]
/-- A row of one's own lies there. -/
theorem own_lies {w : World} {B e k n : Nat} {v : Value} {cs : List Value} (h : w.ownsRow B e k v n cs) : LiesAt w v n cs := by
  rcases h.2 with ⟨rfl, rfl⟩ | ⟨g, cap, cur, rfl, _, _, hn, _⟩
  · have : cs = [] := List.eq_nil_of_length_eq_zero (by simpa using h.1)
    subst this
    exact ⟨none, 0, rfl, Nat.le_refl _, fun i u hi => by simp at hi⟩
  · refine ⟨some ⟨g, 0, none⟩, cap, rfl, hn, fun i u hi => ⟨g, 0, rfl, ?_⟩⟩
    have hlt : i < cs.length := (List.getElem?_eq_some_iff.1 hi).1
    rw [Nat.zero_add]
    exact (h.cellAt i (by rw [← h.1]; exact hlt)).trans hi
theorem own_slice {w : World} {B e k n : Nat} {v : Value} {cs : List Value} (h : w.ownsRow B e k v n cs) : ∃ a c, v = .slice a n c := by
  rcases h.2 with ⟨rfl, rfl⟩ | ⟨g, cap, cur, rfl, _⟩
  · exact ⟨_, _, rfl⟩
  · exact ⟨_, _, rfl⟩
/-- Growing a row of one's own turns no older memory. -/
theorem GrownIs.below {W w' : World} {B e k n n0 : Nat} {xo v' : Value} {cs cs0 : List Value} (h : GrownIs W B e k xo n cs v' w') (h0 : W.ownsRow B e k xo n0 cs0) (hB : B ≤ W.heap.size) : Below B W w' :=
  h.2.1.below hB (fun i hi => (h0.lt i hi).1)
/-- An element's cells, made for a call of append. -/
theorem lit_lies (w : World) (cs : List Value) (e : Nat) : LiesAt (w.alloc (.cells cs.toArray e)) (.slice (some ⟨w.heap.size, 0, none⟩) 1 1) 1 cs :=
  ⟨_, 1, rfl, Nat.le_refl _, fun i u hi => ⟨w.heap.size, 0, rfl, by
    rw [Nat.zero_add, cell_of_row _ _ _ _ _ _ (heap_alloc_new w (.cells cs.toArray e)), List.getElem?_toArray]
    exact hi⟩⟩
theorem icells_one (l : List Int) : ∀ u ∈ icells l, u.oneCell' = true := fun u hu => by
  simp only [icells, List.mem_map] at hu
  obtain ⟨y, _, rfl⟩ := hu
  rfl
theorem pollCells_one : ∀ (l : List Poll), ∀ u ∈ pollCells l, u.oneCell' = true
  | [], u, hu => by simp [pollCells] at hu
  | p :: l, u, hu => by
    simp only [pollCells, List.mem_cons] at hu
    rcases hu with rfl | rfl | rfl | rfl | rfl | hu <;> first | rfl | exact pollCells_one l u hu
theorem ptCells_one : ∀ (l : List Pt), ∀ u ∈ ptCells l, u.oneCell' = true
  | [], u, hu => by simp [ptCells] at hu
  | p :: l, u, hu => by
    simp only [ptCells, List.mem_cons] at hu
    rcases hu with rfl | rfl | rfl | rfl | rfl | rfl | rfl | rfl | hu <;> first | rfl | exact ptCells_one l u hu
theorem ctlCells_one : ∀ (l : List Ctl), ∀ u ∈ ctlCells l, u.oneCell' = true
  | [], u, hu => by simp [ctlCells] at hu
  | p :: l, u, hu => by
    simp only [ctlCells, List.mem_cons] at hu
    rcases hu with rfl | rfl | rfl | hu <;> first | rfl | exact ctlCells_one l u hu
theorem icells_append (l m : List Int) : icells (l ++ m) = icells l ++ icells m := by simp [icells]
theorem pollCells_append : ∀ (l m : List Poll), pollCells (l ++ m) = pollCells l ++ pollCells m
  | [], _ => rfl
  | p :: l, m => by simp [pollCells, pollCells_append l m]
theorem ptCells_append : ∀ (l m : List Pt), ptCells (l ++ m) = ptCells l ++ ptCells m
  | [], _ => rfl
  | p :: l, m => by simp [ptCells, ptCells_append l m]
theorem ctlCells_append : ∀ (l m : List Ctl), ctlCells (l ++ m) = ctlCells l ++ ctlCells m
  | [], _ => rfl
  | p :: l, m => by simp [ctlCells, ctlCells_append l m]
/-- one int behind a row of ints of one's own. -/
theorem app_int (W : World) (B : Nat) (xo : Value) (l : List Int) (x : Int) (hown : W.ownsRow B 3 1 xo l.length (icells l)) (hB : B ≤ W.heap.size) (hl : l.length ≤ 10000000) :
    ∃ v' w', (Builtin.append_ #[23, 23] 23 #[xo, .slice (some ⟨W.heap.size, 0, none⟩) 1 1]).run Tryz.prog (W.alloc (.cells #[.int .i64 x] 3)) = .ok v' w' ∧ w'.ownsRow B 3 1 v' (l.length + 1) (icells (l ++ [x])) ∧ Below B W w' := by
  obtain ⟨v', w', h1, h2⟩ := app_row appT_int (W.alloc (.cells #[.int .i64 x] 3)) B xo (.slice (some ⟨W.heap.size, 0, none⟩) 1 1) l.length 1 (icells l) [.int .i64 x] (hown.alloc _) (lit_lies W [.int .i64 x] 3) rfl (by intro u hu; simp at hu; subst hu; rfl) (by simp; omega) (by omega) (by omega)
  refine ⟨v', w', h1, by rw [icells_append]; exact h2.1, ((below_new W _).mono hB).trans (h2.below (hown.alloc _) (by simp; omega))⟩
end Go.Proofs.YtpocjmlkhophoaaGreatDoor
