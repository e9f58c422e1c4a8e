/- wire.appendLittle and wire.appendBig: the bytes of a number, appended to a row of one's own, for every number. -/
import Derived.Test.YtngfaailbkadfaaDoorRead2
namespace Go.Proofs.YtngfaailbkadfaaDoor
open Go.RowKit Go.Extern.Stop Go.Stop Go.Extern

/-- The n lowest bytes of a number, the lowest first. -/
def leBytes : Nat → Int → List UInt8
  | 0, _ => []
  | n + 1, x => UInt8.ofNat (x % 256).toNat :: leBytes n (x / 256)
theorem leBytes_length : ∀ (n : Nat) (x : Int), (leBytes n x).length = n
  | 0, _ => rfl
  | n + 1, x => by simp [leBytes, leBytes_length n]
theorem cell_byte (y : Int) : (.int .u8 ((UInt8.ofNat (y % 256).toNat).toNat : Int) : Value) = .int .u8 (y % 256) := by
  rw [UInt8.toNat_ofNat']
  congr 1
  omega
/-- What appending leaves: a row of one's own, the old one or a new one; nothing else is turned. -/
def AppIs (w : World) (B : Nat) (v : Value) (l m : List UInt8) (e : Ending) (w' : World) : Prop :=
  ∃ v', e = .returned v' ∧ w'.ownsRow B 5 1 v' (l ++ m).length (bcells (l ++ m)) ∧ Off (fun k => v.ownBlock = some k) w w' ∧ ∀ k, v'.ownBlock = some k → v.ownBlock = some k ∨ w.heap.size ≤ k
theorem news_first {W : World} {g : Nat} {cs : Array Value} {t : TypeId} {fr : Nat × Nat} (hb : W.heap[g]? = some (.cells cs t fr)) (n : Nat) : ∀ j u, (cs.toList.take n)[j]? = some u → W.cell? ((⟨g, 0, none⟩ : Addr).add j) = some u := fun j u hj => by
  refine World.news_of_block hb j u ?_
  rw [List.getElem?_take] at hj
  split at hj
  · exact hj
  · cases hj
/-- one append behind a new block. -/
theorem app_one {w w2 : World} {o : Obj} {B g cap n : Nat} {v : Value} {l m : List UInt8} (hm : m.length = n) (hown : w2.ownsRow B 5 1 (.slice (some ⟨g, 0, none⟩) (l.length + n) cap) (l.length + n) (bcells l ++ bcells m)) (hgrow : (w.alloc o).grownBy w2 v.ownBlock) (hat : v.ownBlock = some g ∨ g = w.heap.size + 1) :
    AppIs w B v l m (.returned (.slice (some ⟨g, 0, none⟩) (l.length + n) cap)) w2 := by
  refine ⟨_, rfl, ?_, ?_, fun k hk => ?_⟩
  · subst hm
    rw [List.length_append, bcells_append]
    exact hown
  · exact (Off.of_below _ ((Below.refl _ w).alloc (Nat.le_refl _) o)).trans (Off.of_grown hgrow)
  · have : g = k := by simpa [Value.ownBlock] using hk
    subst this
    rcases hat with h | h
    · exact .inl h
    · exact .inr (by omega)
/-- appends one behind the other. -/
theorem AppIs.trans {w w1 w2 : World} {B : Nat} {v v1 : Value} {l m k : List UInt8} {e : Ending} (h : AppIs w B v l m (.returned v1) w1) (h2 : AppIs w1 B v1 (l ++ m) k e w2) : AppIs w B v l (m ++ k) e w2 := by
  obtain ⟨v1', e1, ho1, hk1, hb1⟩ := h
  obtain ⟨v2, rfl, ho2, hk2, hb2⟩ := h2
  simp only [Ending.returned.injEq] at e1
  subst e1
  refine ⟨v2, rfl, by rw [← List.append_assoc]; exact ho2, ?_, fun i hi => ?_⟩
  · exact ⟨hk2.os.trans hk1.os, hk2.tape.trans hk1.tape, hk2.output.trans hk1.output, Nat.le_trans hk1.size hk2.size, fun i hi hn => (hk2.block i (Nat.lt_of_lt_of_le hi hk1.size) (fun s => by
      rcases hb1 i s with h | h
      · exact hn h
      · omega)).trans (hk1.block i hi hn)⟩
  · rcases hb2 i hi with h | h
    · exact hb1 i h
    · exact .inr (Nat.le_trans hk1.size h)
theorem le_cells1 (x : Int) : bcells (leBytes 1 x) = [.int .u8 (x % 256)] := by
  simp only [leBytes, bcells, List.map, cell_byte]
theorem le_cells2 (x : Int) : bcells (leBytes 2 x) = [.int .u8 (x % 256), .int .u8 (x / 256 % 256)] := by
  simp only [leBytes, bcells, List.map, cell_byte]
theorem le_cells3 (x : Int) : bcells (leBytes 3 x) = [.int .u8 (x % 256), .int .u8 (x / 256 % 256), .int .u8 (x / 65536 % 256)] := by
  simp only [leBytes, bcells, List.map, cell_byte]
  rw [show x / 256 / 256 = x / 65536 by omega]
theorem le_cells4 (x : Int) : bcells (leBytes 4 x) = [.int .u8 (x % 256), .int .u8 (x / 256 % 256), .int .u8 (x / 65536 % 256), .int .u8 (x / 16777216 % 256)] := by
  simp only [leBytes, bcells, List.map, cell_byte]
  rw [show x / 256 / 256 = x / 65536 by omega, show x / 65536 / 256 = x / 16777216 by omega]
theorem le_cells5 (x : Int) : bcells (leBytes 5 x) = [.int .u8 (x % 256), .int .u8 (x / 256 % 256), .int .u8 (x / 65536 % 256), .int .u8 (x / 16777216 % 256), .int .u8 (x / 4294967296 % 256)] := by
  simp only [leBytes, bcells, List.map, cell_byte]
  rw [show x / 256 / 256 = x / 65536 by omega, show x / 65536 / 256 = x / 16777216 by omega, show x / 16777216 / 256 = x / 4294967296 by omega]
theorem le_cells6 (x : Int) : bcells (leBytes 6 x) = [.int .u8 (x % 256), .int .u8 (x / 256 % 256), .int .u8 (x / 65536 % 256), .int .u8 (x / 16777216 % 256), .int .u8 (x / 4294967296 % 256), .int .u8 (x / 1099511627776 % 256)] := by
  simp only [leBytes, bcells, List.map, cell_byte]
  rw [show x / 256 / 256 = x / 65536 by omega, show x / 65536 / 256 = x / 16777216 by omega, show x / 16777216 / 256 = x / 4294967296 by omega, show x / 4294967296 / 256 = x / 1099511627776 by omega]

def byteOf (y : Int) : UInt8 := UInt8.ofNat (y % 256).toNat
theorem one_cell (y : Int) : [.int .u8 (y % 256)] = bcells [byteOf y] := by
  simp only [byteOf, bcells, List.map, cell_byte]
theorem be_bytes1 (x : Int) : [byteOf x] = (leBytes 1 x).reverse := by
  simp only [leBytes, List.reverse_cons, List.reverse_nil, List.nil_append, byteOf]
theorem be_bytes2 (x : Int) : [byteOf (x / 256)] ++ [byteOf x] = (leBytes 2 x).reverse := by
  simp only [leBytes, List.reverse_cons, List.reverse_nil, List.nil_append, byteOf, List.cons_append]
theorem be_bytes3 (x : Int) : [byteOf (x / 65536)] ++ [byteOf (x / 256)] ++ [byteOf x] = (leBytes 3 x).reverse := by
  simp only [leBytes, List.reverse_cons, List.reverse_nil, List.nil_append, byteOf, List.cons_append]
  rw [show x / 256 / 256 = x / 65536 by omega]
theorem be_bytes4 (x : Int) : [byteOf (x / 16777216)] ++ [byteOf (x / 65536)] ++ [byteOf (x / 256)] ++ [byteOf x] = (leBytes 4 x).reverse := by
  simp only [leBytes, List.reverse_cons, List.reverse_nil, List.nil_append, byteOf, List.cons_append]
  rw [show x / 256 / 256 = x / 65536 by omega, show x / 65536 / 256 = x / 16777216 by omega]
theorem be_bytes5 (x : Int) : [byteOf (x / 4294967296)] ++ [byteOf (x / 16777216)] ++ [byteOf (x / 65536)] ++ [byteOf (x / 256)] ++ [byteOf x] = (leBytes 5 x).reverse := by
  simp only [leBytes, List.reverse_cons, List.reverse_nil, List.nil_append, byteOf, List.cons_append]
  rw [show x / 256 / 256 = x / 65536 by omega, show x / 65536 / 256 = x / 16777216 by omega, show x / 16777216 / 256 = x / 4294967296 by omega]
theorem be_bytes6 (x : Int) : [byteOf (x / 1099511627776)] ++ [byteOf (x / 4294967296)] ++ [byteOf (x / 16777216)] ++ [byteOf (x / 65536)] ++ [byteOf (x / 256)] ++ [byteOf x] = (leBytes 6 x).reverse := by
  simp only [leBytes, List.reverse_cons, List.reverse_nil, List.nil_append, byteOf, List.cons_append]
  rw [show x / 256 / 256 = x / 65536 by omega, show x / 65536 / 256 = x / 16777216 by omega, show x / 16777216 / 256 = x / 4294967296 by omega, show x / 4294967296 / 256 = x / 1099511627776 by omega]

set_option maxRecDepth 100000 in
set_option maxHeartbeats 2000000 in
theorem append_big1 (v : Value) (l : List UInt8) (x : Int) (B : Nat) (w : World) (hv : w.ownsRow B 5 1 v l.length (bcells l)) (hB : B ≤ w.heap.size) (hl : l.length ≤ 140737488355000) :
    Calls Tryd.prog 68 #[v, .int .i64 1, .int .i64 x] w (AppIs w B v l (leBytes 1 x).reverse) := by
  obtain ⟨i0, hi0, hz0, hz1, hz2⟩ := info_parts info5
  obtain ⟨av, cv, rfl, _⟩ := bytesAt_own hv
  have O0 := Lib.hid hv
  clear hv
  go_enter Tryd.func68, Tryd.ntmps68
  go_wp2_with (at_builtin; refine wpList_append_lies _ rfl _ _ 25 rfl B 5 i0 _ 1 1 Tryd.underlying25 hi0 hz0 hz1 hz2 rfl (by omega) _ l.length (bcells l) rfl (O0.out.alloc _) ⟨w.heap.size, 0, none⟩ 1 1 [.int .u8 (x % 256)] rfl rfl (World.news_of_block (cs := #[.int .u8 (x % 256)]) (heap_alloc_new w _)) (by simp [Value.oneCell']) (by omega) (by unfold maxLen; omega) (by omega) (by simp; omega) (w.heap.size + 1) (by simp) ?_)
  intro g1 cap1 w1 hown hgrow hat hlt
  rw [one_cell x] at hown
  have A := Lib.hid (app_one (n := 1) (m := [byteOf x]) rfl hown hgrow hat)
  have hB1 : B ≤ w1.heap.size := by have := hgrow.size; simp at this; omega
  clear hown hgrow hat hlt
  have T1 := A
  go_wp2
  go_ret
  rw [← be_bytes1]
  exact T1.out

set_option maxRecDepth 100000 in
set_option maxHeartbeats 2000000 in
theorem append_big2 (v : Value) (l : List UInt8) (x : Int) (B : Nat) (w : World) (hv : w.ownsRow B 5 1 v l.length (bcells l)) (hB : B ≤ w.heap.size) (hl : l.length ≤ 140737488355000) :
    Calls Tryd.prog 68 #[v, .int .i64 2, .int .i64 x] w (AppIs w B v l (leBytes 2 x).reverse) := by
  obtain ⟨i0, hi0, hz0, hz1, hz2⟩ := info_parts info5
  obtain ⟨av, cv, rfl, _⟩ := bytesAt_own hv
  have O0 := Lib.hid hv
  clear hv
  go_enter Tryd.func68, Tryd.ntmps68
  go_wp2_with (at_builtin; refine wpList_append_lies _ rfl _ _ 25 rfl B 5 i0 _ 1 1 Tryd.underlying25 hi0 hz0 hz1 hz2 rfl (by omega) _ l.length (bcells l) rfl (O0.out.alloc _) ⟨w.heap.size, 0, none⟩ 1 1 [.int .u8 (x / 256 % 256)] rfl rfl (World.news_of_block (cs := #[.int .u8 (x / 256 % 256)]) (heap_alloc_new w _)) (by simp [Value.oneCell']) (by omega) (by unfold maxLen; omega) (by omega) (by simp; omega) (w.heap.size + 1) (by simp) ?_)
  intro g1 cap1 w1 hown hgrow hat hlt
  rw [one_cell (x / 256)] at hown
  have A := Lib.hid (app_one (n := 1) (m := [byteOf (x / 256)]) rfl hown hgrow hat)
  have hB1 : B ≤ w1.heap.size := by have := hgrow.size; simp at this; omega
  clear hown hgrow hat hlt
  have T1 := A
  obtain ⟨l1, hl1⟩ : ∃ y, y = l ++ [byteOf (x / 256)] := ⟨_, rfl⟩
  have e1 : l.length + 1 = l1.length := by rw [hl1]; simp
  obtain ⟨z1, hz1', o1, _⟩ := id A.out
  simp only [Ending.returned.injEq] at hz1'
  subst hz1'
  rw [← hl1, e1] at o1
  have O1 := Lib.hid o1
  rw [e1] at T1 ⊢
  have L1 : Hid (l1 = l ++ ([byteOf (x / 256)])) := Lib.hid (by rw [hl1])
  have k1 : l1.length ≤ 140737488355001 := by omega
  clear A o1 hl1 e1
  go_wp2_with (at_builtin; refine wpList_append_lies _ rfl _ _ 25 rfl B 5 i0 _ 1 1 Tryd.underlying25 hi0 hz0 hz1 hz2 rfl (by omega) _ l1.length (bcells l1) rfl (O1.out.alloc _) ⟨w1.heap.size, 0, none⟩ 1 1 [.int .u8 (x % 256)] rfl rfl (World.news_of_block (cs := #[.int .u8 (x % 256)]) (heap_alloc_new w1 _)) (by simp [Value.oneCell']) (by omega) (by unfold maxLen; omega) (by omega) (by simp; omega) (w1.heap.size + 1) (by simp) ?_)
  intro g2 cap2 w2 hown hgrow hat hlt
  rw [one_cell x] at hown
  have A := Lib.hid (app_one (n := 1) (m := [byteOf x]) rfl hown hgrow hat)
  have hB2 : B ≤ w2.heap.size := by have := hgrow.size; simp at this; omega
  clear hown hgrow hat hlt
  have T2 := Lib.hid (T1.out.trans (by rw [← L1.out]; exact A.out))
  go_wp2
  go_ret
  rw [← be_bytes2]
  exact T2.out

set_option maxRecDepth 100000 in
set_option maxHeartbeats 2000000 in
theorem append_big3 (v : Value) (l : List UInt8) (x : Int) (B : Nat) (w : World) (hv : w.ownsRow B 5 1 v l.length (bcells l)) (hB : B ≤ w.heap.size) (hl : l.length ≤ 140737488355000) :
    Calls Tryd.prog 68 #[v, .int .i64 3, .int .i64 x] w (AppIs w B v l (leBytes 3 x).reverse) := by
  obtain ⟨i0, hi0, hz0, hz1, hz2⟩ := info_parts info5
  obtain ⟨av, cv, rfl, _⟩ := bytesAt_own hv
  have O0 := Lib.hid hv
  clear hv
  go_enter Tryd.func68, Tryd.ntmps68
  go_wp2_with (at_builtin; refine wpList_append_lies _ rfl _ _ 25 rfl B 5 i0 _ 1 1 Tryd.underlying25 hi0 hz0 hz1 hz2 rfl (by omega) _ l.length (bcells l) rfl (O0.out.alloc _) ⟨w.heap.size, 0, none⟩ 1 1 [.int .u8 (x / 65536 % 256)] rfl rfl (World.news_of_block (cs := #[.int .u8 (x / 65536 % 256)]) (heap_alloc_new w _)) (by simp [Value.oneCell']) (by omega) (by unfold maxLen; omega) (by omega) (by simp; omega) (w.heap.size + 1) (by simp) ?_)
  intro g1 cap1 w1 hown hgrow hat hlt
  rw [one_cell (x / 65536)] at hown
  have A := Lib.hid (app_one (n := 1) (m := [byteOf (x / 65536)]) rfl hown hgrow hat)
  have hB1 : B ≤ w1.heap.size := by have := hgrow.size; simp at this; omega
  clear hown hgrow hat hlt
  have T1 := A
  obtain ⟨l1, hl1⟩ : ∃ y, y = l ++ [byteOf (x / 65536)] := ⟨_, rfl⟩
  have e1 : l.length + 1 = l1.length := by rw [hl1]; simp
  obtain ⟨z1, hz1', o1, _⟩ := id A.out
  simp only [Ending.returned.injEq] at hz1'
  subst hz1'
  rw [← hl1, e1] at o1
  have O1 := Lib.hid o1
  rw [e1] at T1 ⊢
  have L1 : Hid (l1 = l ++ ([byteOf (x / 65536)])) := Lib.hid (by rw [hl1])
  have k1 : l1.length ≤ 140737488355001 := by omega
  clear A o1 hl1 e1
  go_wp2_with (at_builtin; refine wpList_append_lies _ rfl _ _ 25 rfl B 5 i0 _ 1 1 Tryd.underlying25 hi0 hz0 hz1 hz2 rfl (by omega) _ l1.length (bcells l1) rfl (O1.out.alloc _) ⟨w1.heap.size, 0, none⟩ 1 1 [.int .u8 (x / 256 % 256)] rfl rfl (World.news_of_block (cs := #[.int .u8 (x / 256 % 256)]) (heap_alloc_new w1 _)) (by simp [Value.oneCell']) (by omega) (by unfold maxLen; omega) (by omega) (by simp; omega) (w1.heap.size + 1) (by simp) ?_)
  intro g2 cap2 w2 hown hgrow hat hlt
  rw [one_cell (x / 256)] at hown
  have A := Lib.hid (app_one (n := 1) (m := [byteOf (x / 256)]) rfl hown hgrow hat)
  have hB2 : B ≤ w2.heap.size := by have := hgrow.size; simp at this; omega
  clear hown hgrow hat hlt
  have T2 := Lib.hid (T1.out.trans (by rw [← L1.out]; exact A.out))
  obtain ⟨l2, hl2⟩ : ∃ y, y = l1 ++ [byteOf (x / 256)] := ⟨_, rfl⟩
  have e2 : l1.length + 1 = l2.length := by rw [hl2]; simp
  obtain ⟨z2, hz2', o2, _⟩ := id A.out
  simp only [Ending.returned.injEq] at hz2'
  subst hz2'
  rw [← hl2, e2] at o2
  have O2 := Lib.hid o2
  rw [e2] at T2 ⊢
  have L2 : Hid (l2 = l ++ ([byteOf (x / 65536)] ++ [byteOf (x / 256)])) := Lib.hid (by rw [hl2]; rw [L1.out, List.append_assoc])
  have k2 : l2.length ≤ 140737488355002 := by omega
  clear A o2 hl2 e2
  go_wp2_with (at_builtin; refine wpList_append_lies _ rfl _ _ 25 rfl B 5 i0 _ 1 1 Tryd.underlying25 hi0 hz0 hz1 hz2 rfl (by omega) _ l2.length (bcells l2) rfl (O2.out.alloc _) ⟨w2.heap.size, 0, none⟩ 1 1 [.int .u8 (x % 256)] rfl rfl (World.news_of_block (cs := #[.int .u8 (x % 256)]) (heap_alloc_new w2 _)) (by simp [Value.oneCell']) (by omega) (by unfold maxLen; omega) (by omega) (by simp; omega) (w2.heap.size + 1) (by simp) ?_)
  intro g3 cap3 w3 hown hgrow hat hlt
  rw [one_cell x] at hown
  have A := Lib.hid (app_one (n := 1) (m := [byteOf x]) rfl hown hgrow hat)
  have hB3 : B ≤ w3.heap.size := by have := hgrow.size; simp at this; omega
  clear hown hgrow hat hlt
  have T3 := Lib.hid (T2.out.trans (by rw [← L2.out]; exact A.out))
  go_wp2
  go_ret
  rw [← be_bytes3]
  exact T3.out

set_option maxRecDepth 100000 in
set_option maxHeartbeats 2000000 in
theorem append_big4 (v : Value) (l : List UInt8) (x : Int) (B : Nat) (w : World) (hv : w.ownsRow B 5 1 v l.length (bcells l)) (hB : B ≤ w.heap.size) (hl : l.length ≤ 140737488355000) :
    Calls Tryd.prog 68 #[v, .int .i64 4, .int .i64 x] w (AppIs w B v l (leBytes 4 x).reverse) := by
  obtain ⟨i0, hi0, hz0, hz1, hz2⟩ := info_parts info5
  obtain ⟨av, cv, rfl, _⟩ := bytesAt_own hv
  have O0 := Lib.hid hv
  clear hv
  go_enter Tryd.func68, Tryd.ntmps68
  go_wp2_with (at_builtin; refine wpList_append_lies _ rfl _ _ 25 rfl B 5 i0 _ 1 1 Tryd.underlying25 hi0 hz0 hz1 hz2 rfl (by omega) _ l.length (bcells l) rfl (O0.out.alloc _) ⟨w.heap.size, 0, none⟩ 1 1 [.int .u8 (x / 16777216 % 256)] rfl rfl (World.news_of_block (cs := #[.int .u8 (x / 16777216 % 256)]) (heap_alloc_new w _)) (by simp [Value.oneCell']) (by omega) (by unfold maxLen; omega) (by omega) (by simp; omega) (w.heap.size + 1) (by simp) ?_)
  intro g1 cap1 w1 hown hgrow hat hlt
  rw [one_cell (x / 16777216)] at hown
  have A := Lib.hid (app_one (n := 1) (m := [byteOf (x / 16777216)]) rfl hown hgrow hat)
  have hB1 : B ≤ w1.heap.size := by have := hgrow.size; simp at this; omega
  clear hown hgrow hat hlt
  have T1 := A
  obtain ⟨l1, hl1⟩ : ∃ y, y = l ++ [byteOf (x / 16777216)] := ⟨_, rfl⟩
  have e1 : l.length + 1 = l1.length := by rw [hl1]; simp
  obtain ⟨z1, hz1', o1, _⟩ := id A.out
  simp only [Ending.returned.injEq] at hz1'
  subst hz1'
  rw [← hl1, e1] at o1
  have O1 := Lib.hid o1
  rw [e1] at T1 ⊢
  have L1 : Hid (l1 = l ++ ([byteOf (x / 16777216)])) := Lib.hid (by rw [hl1])
  have k1 : l1.length ≤ 140737488355001 := by omega
  clear A o1 hl1 e1
  go_wp2_with (at_builtin; refine wpList_append_lies _ rfl _ _ 25 rfl B 5 i0 _ 1 1 Tryd.underlying25 hi0 hz0 hz1 hz2 rfl (by omega) _ l1.length (bcells l1) rfl (O1.out.alloc _) ⟨w1.heap.size, 0, none⟩ 1 1 [.int .u8 (x / 65536 % 256)] rfl rfl (World.news_of_block (cs := #[.int .u8 (x / 65536 % 256)]) (heap_alloc_new w1 _)) (by simp [Value.oneCell']) (by omega) (by unfold maxLen; omega) (by omega) (by simp; omega) (w1.heap.size + 1) (by simp) ?_)
  intro g2 cap2 w2 hown hgrow hat hlt
  rw [one_cell (x / 65536)] at hown
  have A := Lib.hid (app_one (n := 1) (m := [byteOf (x / 65536)]) rfl hown hgrow hat)
  have hB2 : B ≤ w2.heap.size := by have := hgrow.size; simp at this; omega
  clear hown hgrow hat hlt
  have T2 := Lib.hid (T1.out.trans (by rw [← L1.out]; exact A.out))
  obtain ⟨l2, hl2⟩ : ∃ y, y = l1 ++ [byteOf (x / 65536)] := ⟨_, rfl⟩
  have e2 : l1.length + 1 = l2.length := by rw [hl2]; simp
  obtain ⟨z2, hz2', o2, _⟩ := id A.out
  simp only [Ending.returned.injEq] at hz2'
  subst hz2'
  rw [← hl2, e2] at o2
  have O2 := Lib.hid o2
  rw [e2] at T2 ⊢
  have L2 : Hid (l2 = l ++ ([byteOf (x / 16777216)] ++ [byteOf (x / 65536)])) := Lib.hid (by rw [hl2]; rw [L1.out, List.append_assoc])
  have k2 : l2.length ≤ 140737488355002 := by omega
  clear A o2 hl2 e2
  go_wp2_with (at_builtin; refine wpList_append_lies _ rfl _ _ 25 rfl B 5 i0 _ 1 1 Tryd.underlying25 hi0 hz0 hz1 hz2 rfl (by omega) _ l2.length (bcells l2) rfl (O2.out.alloc _) ⟨w2.heap.size, 0, none⟩ 1 1 [.int .u8 (x / 256 % 256)] rfl rfl (World.news_of_block (cs := #[.int .u8 (x / 256 % 256)]) (heap_alloc_new w2 _)) (by simp [Value.oneCell']) (by omega) (by unfold maxLen; omega) (by omega) (by simp; omega) (w2.heap.size + 1) (by simp) ?_)
  intro g3 cap3 w3 hown hgrow hat hlt
  rw [one_cell (x / 256)] at hown
  have A := Lib.hid (app_one (n := 1) (m := [byteOf (x / 256)]) rfl hown hgrow hat)
  have hB3 : B ≤ w3.heap.size := by have := hgrow.size; simp at this; omega
  clear hown hgrow hat hlt
  have T3 := Lib.hid (T2.out.trans (by rw [← L2.out]; exact A.out))
  obtain ⟨l3, hl3⟩ : ∃ y, y = l2 ++ [byteOf (x / 256)] := ⟨_, rfl⟩
  have e3 : l2.length + 1 = l3.length := by rw [hl3]; simp
  obtain ⟨z3, hz3', o3, _⟩ := id A.out
  simp only [Ending.returned.injEq] at hz3'
  subst hz3'
  rw [← hl3, e3] at o3
  have O3 := Lib.hid o3
  rw [e3] at T3 ⊢
  have L3 : Hid (l3 = l ++ ([byteOf (x / 16777216)] ++ [byteOf (x / 65536)] ++ [byteOf (x / 256)])) := Lib.hid (by rw [hl3]; rw [L2.out, List.append_assoc])
  have k3 : l3.length ≤ 140737488355003 := by omega
  clear A o3 hl3 e3
  go_wp2_with (at_builtin; refine wpList_append_lies _ rfl _ _ 25 rfl B 5 i0 _ 1 1 Tryd.underlying25 hi0 hz0 hz1 hz2 rfl (by omega) _ l3.length (bcells l3) rfl (O3.out.alloc _) ⟨w3.heap.size, 0, none⟩ 1 1 [.int .u8 (x % 256)] rfl rfl (World.news_of_block (cs := #[.int .u8 (x % 256)]) (heap_alloc_new w3 _)) (by simp [Value.oneCell']) (by omega) (by unfold maxLen; omega) (by omega) (by simp; omega) (w3.heap.size + 1) (by simp) ?_)
  intro g4 cap4 w4 hown hgrow hat hlt
  rw [one_cell x] at hown
  have A := Lib.hid (app_one (n := 1) (m := [byteOf x]) rfl hown hgrow hat)
  have hB4 : B ≤ w4.heap.size := by have := hgrow.size; simp at this; omega
  clear hown hgrow hat hlt
  have T4 := Lib.hid (T3.out.trans (by rw [← L3.out]; exact A.out))
  go_wp2
  go_ret
  rw [← be_bytes4]
  exact T4.out

set_option maxRecDepth 100000 in
set_option maxHeartbeats 2000000 in
theorem append_big5 (v : Value) (l : List UInt8) (x : Int) (B : Nat) (w : World) (hv : w.ownsRow B 5 1 v l.length (bcells l)) (hB : B ≤ w.heap.size) (hl : l.length ≤ 140737488355000) :
    Calls Tryd.prog 68 #[v, .int .i64 5, .int .i64 x] w (AppIs w B v l (leBytes 5 x).reverse) := by
  obtain ⟨i0, hi0, hz0, hz1, hz2⟩ := info_parts info5
  obtain ⟨av, cv, rfl, _⟩ := bytesAt_own hv
  have O0 := Lib.hid hv
  clear hv
  go_enter Tryd.func68, Tryd.ntmps68
  go_wp2_with (at_builtin; refine wpList_append_lies _ rfl _ _ 25 rfl B 5 i0 _ 1 1 Tryd.underlying25 hi0 hz0 hz1 hz2 rfl (by omega) _ l.length (bcells l) rfl (O0.out.alloc _) ⟨w.heap.size, 0, none⟩ 1 1 [.int .u8 (x / 4294967296 % 256)] rfl rfl (World.news_of_block (cs := #[.int .u8 (x / 4294967296 % 256)]) (heap_alloc_new w _)) (by simp [Value.oneCell']) (by omega) (by unfold maxLen; omega) (by omega) (by simp; omega) (w.heap.size + 1) (by simp) ?_)
  intro g1 cap1 w1 hown hgrow hat hlt
  rw [one_cell (x / 4294967296)] at hown
  have A := Lib.hid (app_one (n := 1) (m := [byteOf (x / 4294967296)]) rfl hown hgrow hat)
  have hB1 : B ≤ w1.heap.size := by have := hgrow.size; simp at this; omega
  clear hown hgrow hat hlt
  have T1 := A
  obtain ⟨l1, hl1⟩ : ∃ y, y = l ++ [byteOf (x / 4294967296)] := ⟨_, rfl⟩
  have e1 : l.length + 1 = l1.length := by rw [hl1]; simp
  obtain ⟨z1, hz1', o1, _⟩ := id A.out
  simp only [Ending.returned.injEq] at hz1'
  subst hz1'
  rw [← hl1, e1] at o1
  have O1 := Lib.hid o1
  rw [e1] at T1 ⊢
  have L1 : Hid (l1 = l ++ ([byteOf (x / 4294967296)])) := Lib.hid (by rw [hl1])
  have k1 : l1.length ≤ 140737488355001 := by omega
  clear A o1 hl1 e1
  go_wp2_with (at_builtin; refine wpList_append_lies _ rfl _ _ 25 rfl B 5 i0 _ 1 1 Tryd.underlying25 hi0 hz0 hz1 hz2 rfl (by omega) _ l1.length (bcells l1) rfl (O1.out.alloc _) ⟨w1.heap.size, 0, none⟩ 1 1 [.int .u8 (x / 16777216 % 256)] rfl rfl (World.news_of_block (cs := #[.int .u8 (x / 16777216 % 256)]) (heap_alloc_new w1 _)) (by simp [Value.oneCell']) (by omega) (by unfold maxLen; omega) (by omega) (by simp; omega) (w1.heap.size + 1) (by simp) ?_)
  intro g2 cap2 w2 hown hgrow hat hlt
  rw [one_cell (x / 16777216)] at hown
  have A := Lib.hid (app_one (n := 1) (m := [byteOf (x / 16777216)]) rfl hown hgrow hat)
  have hB2 : B ≤ w2.heap.size := by have := hgrow.size; simp at this; omega
  clear hown hgrow hat hlt
  have T2 := Lib.hid (T1.out.trans (by rw [← L1.out]; exact A.out))
  obtain ⟨l2, hl2⟩ : ∃ y, y = l1 ++ [byteOf (x / 16777216)] := ⟨_, rfl⟩
  have e2 : l1.length + 1 = l2.length := by rw [hl2]; simp
  obtain ⟨z2, hz2', o2, _⟩ := id A.out
  simp only [Ending.returned.injEq] at hz2'
  subst hz2'
  rw [← hl2, e2] at o2
  have O2 := Lib.hid o2
  rw [e2] at T2 ⊢
  have L2 : Hid (l2 = l ++ ([byteOf (x / 4294967296)] ++ [byteOf (x / 16777216)])) := Lib.hid (by rw [hl2]; rw [L1.out, List.append_assoc])
  have k2 : l2.length ≤ 140737488355002 := by omega
  clear A o2 hl2 e2
  go_wp2_with (at_builtin; refine wpList_append_lies _ rfl _ _ 25 rfl B 5 i0 _ 1 1 Tryd.underlying25 hi0 hz0 hz1 hz2 rfl (by omega) _ l2.length (bcells l2) rfl (O2.out.alloc _) ⟨w2.heap.size, 0, none⟩ 1 1 [.int .u8 (x / 65536 % 256)] rfl rfl (World.news_of_block (cs := #[.int .u8 (x / 65536 % 256)]) (heap_alloc_new w2 _)) (by simp [Value.oneCell']) (by omega) (by unfold maxLen; omega) (by omega) (by simp; omega) (w2.heap.size + 1) (by simp) ?_)
  intro g3 cap3 w3 hown hgrow hat hlt
  rw [one_cell (x / 65536)] at hown
  have A := Lib.hid (app_one (n := 1) (m := [byteOf (x / 65536)]) rfl hown hgrow hat)
  have hB3 : B ≤ w3.heap.size := by have := hgrow.size; simp at this; omega
  clear hown hgrow hat hlt
  have T3 := Lib.hid (T2.out.trans (by rw [← L2.out]; exact A.out))
  obtain ⟨l3, hl3⟩ : ∃ y, y = l2 ++ [byteOf (x / 65536)] := ⟨_, rfl⟩
  have e3 : l2.length + 1 = l3.length := by rw [hl3]; simp
  obtain ⟨z3, hz3', o3, _⟩ := id A.out
  simp only [Ending.returned.injEq] at hz3'
  subst hz3'
  rw [← hl3, e3] at o3
  have O3 := Lib.hid o3
  rw [e3] at T3 ⊢
  have L3 : Hid (l3 = l ++ ([byteOf (x / 4294967296)] ++ [byteOf (x / 16777216)] ++ [byteOf (x / 65536)])) := Lib.hid (by rw [hl3]; rw [L2.out, List.append_assoc])
  have k3 : l3.length ≤ 140737488355003 := by omega
  clear A o3 hl3 e3
  go_wp2_with (at_builtin; refine wpList_append_lies _ rfl _ _ 25 rfl B 5 i0 _ 1 1 Tryd.underlying25 hi0 hz0 hz1 hz2 rfl (by omega) _ l3.length (bcells l3) rfl (O3.out.alloc _) ⟨w3.heap.size, 0, none⟩ 1 1 [.int .u8 (x / 256 % 256)] rfl rfl (World.news_of_block (cs := #[.int .u8 (x / 256 % 256)]) (heap_alloc_new w3 _)) (by simp [Value.oneCell']) (by omega) (by unfold maxLen; omega) (by omega) (by simp; omega) (w3.heap.size + 1) (by simp) ?_)
  intro g4 cap4 w4 hown hgrow hat hlt
  rw [one_cell (x / 256)] at hown
  have A := Lib.hid (app_one (n := 1) (m := [byteOf (x / 256)]) rfl hown hgrow hat)
  have hB4 : B ≤ w4.heap.size := by have := hgrow.size; simp at this; omega
  clear hown hgrow hat hlt
  have T4 := Lib.hid (T3.out.trans (by rw [← L3.out]; exact A.out))
  obtain ⟨l4, hl4⟩ : ∃ y, y = l3 ++ [byteOf (x / 256)] := ⟨_, rfl⟩
  have e4 : l3.length + 1 = l4.length := by rw [hl4]; simp
  obtain ⟨z4, hz4', o4, _⟩ := id A.out
  simp only [Ending.returned.injEq] at hz4'
  subst hz4'
  rw [← hl4, e4] at o4
  have O4 := Lib.hid o4
  rw [e4] at T4 ⊢
  have L4 : Hid (l4 = l ++ ([byteOf (x / 4294967296)] ++ [byteOf (x / 16777216)] ++ [byteOf (x / 65536)] ++ [byteOf (x / 256)])) := Lib.hid (by rw [hl4]; rw [L3.out, List.append_assoc])
  have k4 : l4.length ≤ 140737488355004 := by omega
  clear A o4 hl4 e4
  go_wp2_with (at_builtin; refine wpList_append_lies _ rfl _ _ 25 rfl B 5 i0 _ 1 1 Tryd.underlying25 hi0 hz0 hz1 hz2 rfl (by omega) _ l4.length (bcells l4) rfl (O4.out.alloc _) ⟨w4.heap.size, 0, none⟩ 1 1 [.int .u8 (x % 256)] rfl rfl (World.news_of_block (cs := #[.int .u8 (x % 256)]) (heap_alloc_new w4 _)) (by simp [Value.oneCell']) (by omega) (by unfold maxLen; omega) (by omega) (by simp; omega) (w4.heap.size + 1) (by simp) ?_)
  intro g5 cap5 w5 hown hgrow hat hlt
  rw [one_cell x] at hown
  have A := Lib.hid (app_one (n := 1) (m := [byteOf x]) rfl hown hgrow hat)
  have hB5 : B ≤ w5.heap.size := by have := hgrow.size; simp at this; omega
  clear hown hgrow hat hlt
  have T5 := Lib.hid (T4.out.trans (by rw [← L4.out]; exact A.out))
  go_wp2
  go_ret
  rw [← be_bytes5]
  exact T5.out

set_option maxRecDepth 100000 in
set_option maxHeartbeats 2000000 in
theorem append_big6 (v : Value) (l : List UInt8) (x : Int) (B : Nat) (w : World) (hv : w.ownsRow B 5 1 v l.length (bcells l)) (hB : B ≤ w.heap.size) (hl : l.length ≤ 140737488355000) :
    Calls Tryd.prog 68 #[v, .int .i64 6, .int .i64 x] w (AppIs w B v l (leBytes 6 x).reverse) := by
  obtain ⟨i0, hi0, hz0, hz1, hz2⟩ := info_parts info5
  obtain ⟨av, cv, rfl, _⟩ := bytesAt_own hv
  have O0 := Lib.hid hv
  clear hv
  go_enter Tryd.func68, Tryd.ntmps68
  go_wp2_with (at_builtin; refine wpList_append_lies _ rfl _ _ 25 rfl B 5 i0 _ 1 1 Tryd.underlying25 hi0 hz0 hz1 hz2 rfl (by omega) _ l.length (bcells l) rfl (O0.out.alloc _) ⟨w.heap.size, 0, none⟩ 1 1 [.int .u8 (x / 1099511627776 % 256)] rfl rfl (World.news_of_block (cs := #[.int .u8 (x / 1099511627776 % 256)]) (heap_alloc_new w _)) (by simp [Value.oneCell']) (by omega) (by unfold maxLen; omega) (by omega) (by simp; omega) (w.heap.size + 1) (by simp) ?_)
  intro g1 cap1 w1 hown hgrow hat hlt
  rw [one_cell (x / 1099511627776)] at hown
  have A := Lib.hid (app_one (n := 1) (m := [byteOf (x / 1099511627776)]) rfl hown hgrow hat)
  have hB1 : B ≤ w1.heap.size := by have := hgrow.size; simp at this; omega
  clear hown hgrow hat hlt
  have T1 := A
  obtain ⟨l1, hl1⟩ : ∃ y, y = l ++ [byteOf (x / 1099511627776)] := ⟨_, rfl⟩
  have e1 : l.length + 1 = l1.length := by rw [hl1]; simp
  obtain ⟨z1, hz1', o1, _⟩ := id A.out
  simp only [Ending.returned.injEq] at hz1'
  subst hz1'
  rw [← hl1, e1] at o1
  have O1 := Lib.hid o1
  rw [e1] at T1 ⊢
  have L1 : Hid (l1 = l ++ ([byteOf (x / 1099511627776)])) := Lib.hid (by rw [hl1])
  have k1 : l1.length ≤ 140737488355001 := by omega
  clear A o1 hl1 e1
  go_wp2_with (at_builtin; refine wpList_append_lies _ rfl _ _ 25 rfl B 5 i0 _ 1 1 Tryd.underlying25 hi0 hz0 hz1 hz2 rfl (by omega) _ l1.length (bcells l1) rfl (O1.out.alloc _) ⟨w1.heap.size, 0, none⟩ 1 1 [.int .u8 (x / 4294967296 % 256)] rfl rfl (World.news_of_block (cs := #[.int .u8 (x / 4294967296 % 256)]) (heap_alloc_new w1 _)) (by simp [Value.oneCell']) (by omega) (by unfold maxLen; omega) (by omega) (by simp; omega) (w1.heap.size + 1) (by simp) ?_)
  intro g2 cap2 w2 hown hgrow hat hlt
  rw [one_cell (x / 4294967296)] at hown
  have A := Lib.hid (app_one (n := 1) (m := [byteOf (x / 4294967296)]) rfl hown hgrow hat)
  have hB2 : B ≤ w2.heap.size := by have := hgrow.size; simp at this; omega
  clear hown hgrow hat hlt
  have T2 := Lib.hid (T1.out.trans (by rw [← L1.out]; exact A.out))
  obtain ⟨l2, hl2⟩ : ∃ y, y = l1 ++ [byteOf (x / 4294967296)] := ⟨_, rfl⟩
  have e2 : l1.length + 1 = l2.length := by rw [hl2]; simp
  obtain ⟨z2, hz2', o2, _⟩ := id A.out
  simp only [Ending.returned.injEq] at hz2'
  subst hz2'
  rw [← hl2, e2] at o2
  have O2 := Lib.hid o2
  rw [e2] at T2 ⊢
  have L2 : Hid (l2 = l ++ ([byteOf (x / 1099511627776)] ++ [byteOf (x / 4294967296)])) := Lib.hid (by rw [hl2]; rw [L1.out, List.append_assoc])
  have k2 : l2.length ≤ 140737488355002 := by omega
  clear A o2 hl2 e2
  go_wp2_with (at_builtin; refine wpList_append_lies _ rfl _ _ 25 rfl B 5 i0 _ 1 1 Tryd.underlying25 hi0 hz0 hz1 hz2 rfl (by omega) _ l2.length (bcells l2) rfl (O2.out.alloc _) ⟨w2.heap.size, 0, none⟩ 1 1 [.int .u8 (x / 16777216 % 256)] rfl rfl (World.news_of_block (cs := #[.int .u8 (x / 16777216 % 256)]) (heap_alloc_new w2 _)) (by simp [Value.oneCell']) (by omega) (by unfold maxLen; omega) (by omega) (by simp; omega) (w2.heap.size + 1) (by simp) ?_)
  intro g3 cap3 w3 hown hgrow hat hlt
  rw [one_cell (x / 16777216)] at hown
  have A := Lib.hid (app_one (n := 1) (m := [byteOf (x / 16777216)]) rfl hown hgrow hat)
  have hB3 : B ≤ w3.heap.size := by have := hgrow.size; simp at this; omega
  clear hown hgrow hat hlt
  have T3 := Lib.hid (T2.out.trans (by rw [← L2.out]; exact A.out))
  obtain ⟨l3, hl3⟩ : ∃ y, y = l2 ++ [byteOf (x / 16777216)] := ⟨_, rfl⟩
  have e3 : l2.length + 1 = l3.length := by rw [hl3]; simp
  obtain ⟨z3, hz3', o3, _⟩ := id A.out
  simp only [Ending.returned.injEq] at hz3'
  subst hz3'
  rw [← hl3, e3] at o3
  have O3 := Lib.hid o3
  rw [e3] at T3 ⊢
  have L3 : Hid (l3 = l ++ ([byteOf (x / 1099511627776)] ++ [byteOf (x / 4294967296)] ++ [byteOf (x / 16777216)])) := Lib.hid (by rw [hl3]; rw [L2.out, List.append_assoc])
  have k3 : l3.length ≤ 140737488355003 := by omega
  clear A o3 hl3 e3
  go_wp2_with (at_builtin; refine wpList_append_lies _ rfl _ _ 25 rfl B 5 i0 _ 1 1 Tryd.underlying25 hi0 hz0 hz1 hz2 rfl (by omega) _ l3.length (bcells l3) rfl (O3.out.alloc _) ⟨w3.heap.size, 0, none⟩ 1 1 [.int .u8 (x / 65536 % 256)] rfl rfl (World.news_of_block (cs := #[.int .u8 (x / 65536 % 256)]) (heap_alloc_new w3 _)) (by simp [Value.oneCell']) (by omega) (by unfold maxLen; omega) (by omega) (by simp; omega) (w3.heap.size + 1) (by simp) ?_)
  intro g4 cap4 w4 hown hgrow hat hlt
  rw [one_cell (x / 65536)] at hown
  have A := Lib.hid (app_one (n := 1) (m := [byteOf (x / 65536)]) rfl hown hgrow hat)
  have hB4 : B ≤ w4.heap.size := by have := hgrow.size; simp at this; omega
  clear hown hgrow hat hlt
  have T4 := Lib.hid (T3.out.trans (by rw [← L3.out]; exact A.out))
  obtain ⟨l4, hl4⟩ : ∃ y, y = l3 ++ [byteOf (x / 65536)] := ⟨_, rfl⟩
  have e4 : l3.length + 1 = l4.length := by rw [hl4]; simp
  obtain ⟨z4, hz4', o4, _⟩ := id A.out
  simp only [Ending.returned.injEq] at hz4'
  subst hz4'
  rw [← hl4, e4] at o4
  have O4 := Lib.hid o4
  rw [e4] at T4 ⊢
  have L4 : Hid (l4 = l ++ ([byteOf (x / 1099511627776)] ++ [byteOf (x / 4294967296)] ++ [byteOf (x / 16777216)] ++ [byteOf (x / 65536)])) := Lib.hid (by rw [hl4]; rw [L3.out, List.append_assoc])
  have k4 : l4.length ≤ 140737488355004 := by omega
  clear A o4 hl4 e4
  go_wp2_with (at_builtin; refine wpList_append_lies _ rfl _ _ 25 rfl B 5 i0 _ 1 1 Tryd.underlying25 hi0 hz0 hz1 hz2 rfl (by omega) _ l4.length (bcells l4) rfl (O4.out.alloc _) ⟨w4.heap.size, 0, none⟩ 1 1 [.int .u8 (x / 256 % 256)] rfl rfl (World.news_of_block (cs := #[.int .u8 (x / 256 % 256)]) (heap_alloc_new w4 _)) (by simp [Value.oneCell']) (by omega) (by unfold maxLen; omega) (by omega) (by simp; omega) (w4.heap.size + 1) (by simp) ?_)
  intro g5 cap5 w5 hown hgrow hat hlt
  rw [one_cell (x / 256)] at hown
  have A := Lib.hid (app_one (n := 1) (m := [byteOf (x / 256)]) rfl hown hgrow hat)
  have hB5 : B ≤ w5.heap.size := by have := hgrow.size; simp at this; omega
  clear hown hgrow hat hlt
  have T5 := Lib.hid (T4.out.trans (by rw [← L4.out]; exact A.out))
  obtain ⟨l5, hl5⟩ : ∃ y, y = l4 ++ [byteOf (x / 256)] := ⟨_, rfl⟩
  have e5 : l4.length + 1 = l5.length := by rw [hl5]; simp
  obtain ⟨z5, hz5', o5, _⟩ := id A.out
  simp only [Ending.returned.injEq] at hz5'
  subst hz5'
  rw [← hl5, e5] at o5
  have O5 := Lib.hid o5
  rw [e5] at T5 ⊢
  have L5 : Hid (l5 = l ++ ([byteOf (x / 1099511627776)] ++ [byteOf (x / 4294967296)] ++ [byteOf (x / 16777216)] ++ [byteOf (x / 65536)] ++ [byteOf (x / 256)])) := Lib.hid (by rw [hl5]; rw [L4.out, List.append_assoc])
  have k5 : l5.length ≤ 140737488355005 := by omega
  clear A o5 hl5 e5
  go_wp2_with (at_builtin; refine wpList_append_lies _ rfl _ _ 25 rfl B 5 i0 _ 1 1 Tryd.underlying25 hi0 hz0 hz1 hz2 rfl (by omega) _ l5.length (bcells l5) rfl (O5.out.alloc _) ⟨w5.heap.size, 0, none⟩ 1 1 [.int .u8 (x % 256)] rfl rfl (World.news_of_block (cs := #[.int .u8 (x % 256)]) (heap_alloc_new w5 _)) (by simp [Value.oneCell']) (by omega) (by unfold maxLen; omega) (by omega) (by simp; omega) (w5.heap.size + 1) (by simp) ?_)
  intro g6 cap6 w6 hown hgrow hat hlt
  rw [one_cell x] at hown
  have A := Lib.hid (app_one (n := 1) (m := [byteOf x]) rfl hown hgrow hat)
  have hB6 : B ≤ w6.heap.size := by have := hgrow.size; simp at this; omega
  clear hown hgrow hat hlt
  have T6 := Lib.hid (T5.out.trans (by rw [← L5.out]; exact A.out))
  go_wp2
  go_ret
  rw [← be_bytes6]
  exact T6.out

theorem append_big (n : Nat) (h1 : 1 ≤ n) (h2 : n ≤ 6) (v : Value) (l : List UInt8) (x : Int) (B : Nat) (w : World) (hv : w.ownsRow B 5 1 v l.length (bcells l)) (hB : B ≤ w.heap.size) (hl : l.length ≤ 140737488355000) :
    Calls Tryd.prog 68 #[v, .int .i64 (n : Int), .int .i64 x] w (AppIs w B v l (leBytes n x).reverse) := by
  match n, h1, h2 with
  | 1, _, _ => exact append_big1 v l x B w hv hB hl
  | 2, _, _ => exact append_big2 v l x B w hv hB hl
  | 3, _, _ => exact append_big3 v l x B w hv hB hl
  | 4, _, _ => exact append_big4 v l x B w hv hB hl
  | 5, _, _ => exact append_big5 v l x B w hv hB hl
  | 6, _, _ => exact append_big6 v l x B w hv hB hl
  | n + 7, _, h2 => omega
end Go.Proofs.YtngfaailbkadfaaDoor
