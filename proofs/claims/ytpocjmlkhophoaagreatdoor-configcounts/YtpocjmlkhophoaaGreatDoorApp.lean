/- wire.appendLittle and wire.appendBig: the bytes of a number, appended to a row of one's own, for every number. -/
import Derived.Test.YtpocjmlkhophoaaGreatDoorRead2
namespace Go.Proofs.YtpocjmlkhophoaaGreatDoor
open Go.RowKit Go.Extern.Stop Go.Stop Go.Extern

/-- The n lowest bytes of a number, the lowest first. -/
def leBytes : Nat → Int → List UInt8
  | 0, _ => []
  | n + 1, x => UInt8.ofNat (x % 256).toNat :: leBytes n (x / 256)
theorem leBytes_length : ∀ (n : Nat) (x : Int), (leBytes n x).length = n
  | 0, _ => rfl
  | n + 1, x => by simp [leBytes, leBytes_length n]
theorem cell_byte (y : Int) : (.int .u8 ((UInt8.ofNat (y % 256).toNat).toNat : Int) : Value) = .int .u8 (y % 256) := by
  rw [UInt8.toNat_ofNat']
  congr 1
  omega
/-- What appending leaves: a row of one's own, the old one or a new one; nothing else is turned. -/
def AppIs (w : World) (B : Nat) (v : Value) (l m : List UInt8) (e : Ending) (w' : World) : Prop :=
  ∃ v', e = .returned v' ∧ w'.ownsRow B 5 1 v' (l ++ m).length (bcells (l ++ m)) ∧ Off (fun k => v.ownBlock = some k) w w' ∧ ∀ k, v'.ownBlock = some k → v.ownBlock = some k ∨ w.heap.size ≤ k
theorem news_first {W : World} {g : Nat} {cs : Array Value} {t : TypeId} {fr : Nat × Nat} (hb : W.heap[g]? = some (.cells cs t fr)) (n : Nat) : ∀ j u, (cs.toList.take n)[j]? = some u → W.cell? ((⟨g, 0, none⟩ : Addr).add j) = some u := fun j u hj => by
  refine World.news_of_block hb j u ?_
  rw [List.getElem?_take] at hj
  split at hj
  · exact hj
  · cases hj
/-- one append behind a new block. -/
theorem app_one {w w2 : World} {o : Obj} {B g cap n : Nat} {v : Value} {l m : List UInt8} (hm : m.length = n) (hown : w2.ownsRow B 5 1 (.slice (some ⟨g, 0, none⟩) (l.length + n) cap) (l.length + n) (bcells l ++ bcells m)) (hgrow : (w.alloc o).grownBy w2 v.ownBlock) (hat : v.ownBlock = some g ∨ g = w.heap.size + 1) :
    AppIs w B v l m (.returned (.slice (some ⟨g, 0, none⟩) (l.length + n) cap)) w2 := by
  refine ⟨_, rfl, ?_, ?_, fun k hk => ?_⟩
  · subst hm
    rw [List.length_append, bcells_append]
    exact hown
  · exact (Off.of_below _ ((Below.refl _ w).alloc (Nat.le_refl _) o)).trans (Off.of_grown hgrow)
  · have : g = k := by simpa [Value.ownBlock] using hk
    subst this
    rcases hat with h | h
    · exact .inl h
    · exact .inr (by omega)
/-- appends one behind the other. -/
theorem AppIs.trans {w w1 w2 : World} {B : Nat} {v v1 : Value} {l m k : List UInt8} {e : Ending} (h : AppIs w B v l m (.returned v1) w1) (h2 : AppIs w1 B v1 (l ++ m) k e w2) : AppIs w B v l (m ++ k) e w2 := by
  obtain ⟨v1', e1, ho1, hk1, hb1⟩ := h
  obtain ⟨v2, rfl, ho2, hk2, hb2⟩ := h2
  simp only [Ending.returned.injEq] at e1
  subst e1
  refine ⟨v2, rfl, by rw [← List.append_assoc]; exact ho2, ?_, fun i hi => ?_⟩
  · exact ⟨hk2.os.trans hk1.os, hk2.tape.trans hk1.tape, hk2.output.trans hk1.output, Nat.le_trans hk1.size hk2.size, fun i hi hn => (hk2.block i (Nat.lt_of_lt_of_le hi hk1.size) (fun s => by
      rcases hb1 i s with h | h
      · exact hn h
      · omega)).trans (hk1.block i hi hn)⟩
  · rcases hb2 i hi with h | h
    · exact hb1 i h
    · exact .inr (Nat.le_trans hk1.size h)
theorem le_cells1 (x : Int) : bcells (leBytes 1 x) = [.int .u8 (x % 256)] := by
  simp only [leBytes, bcells, List.map, cell_byte]
theorem le_cells2 (x : Int) : bcells (leBytes 2 x) = [.int .u8 (x % 256), .int .u8 (x / 256 % 256)] := by
  simp only [leBytes, bcells, List.map, cell_byte]
theorem le_cells3 (x : Int) : bcells (leBytes 3 x) = [.int .u8 (x % 256), .int .u8 (x / 256 % 256), .int .u8 (x / 65536 % 256)] := by
  simp only [leBytes, bcells, List.map, cell_byte]
  rw [show x / 256 / 256 = x / 65536 by omega]
theorem le_cells4 (x : Int) : bcells (leBytes 4 x) = [.int .u8 (x % 256), .int .u8 (x / 256 % 256), .int .u8 (x / 65536 % 256), .int .u8 (x / 16777216 % 256)] := by
  simp only [leBytes, bcells, List.map, cell_byte]
  rw [show x / 256 / 256 = x / 65536 by omega, show x / 65536 / 256 = x / 16777216 by omega]
theorem le_cells5 (x : Int) : bcells (leBytes 5 x) = [.int .u8 (x % 256), .int .u8 (x / 256 % 256), .int .u8 (x / 65536 % 256), .int .u8 (x / 16777216 % 256), .int .u8 (x / 4294967296 % 256)] := by
  simp only [leBytes, bcells, List.map, cell_byte]
  rw [show x / 256 / 256 = x / 65536 by omega, show x / 65536 / 256 = x / 16777216 by omega, show x / 16777216 / 256 = x / 4294967296 by omega]
theorem le_cells6 (x : Int) : bcells (leBytes 6 x) = [.int .u8 (x % 256), .int .u8 (x / 256 % 256), .int .u8 (x / 65536 % 256), .int .u8 (x / 16777216 % 256), .int .u8 (x / 4294967296 % 256), .int .u8 (x / 1099511627776 % 256)] := by
  simp only [leBytes, bcells, List.map, cell_byte]
  rw [show x / 256 / 256 = x / 65536 by omega, show x / 65536 / 256 = x / 16777216 by omega, show x / 16777216 / 256 = x / 4294967296 by omega, show x / 4294967296 / 256 = x / 1099511627776 by omega]

set_option maxRecDepth 100000 in
set_option maxHeartbeats 1000000 in
theorem append_little1 (v : Value) (l : List UInt8) (x : Int) (B : Nat) (w : World) (hv : w.ownsRow B 5 1 v l.length (bcells l)) (hB : B ≤ w.heap.size) (hl : l.length ≤ 140737488355000) :
    Calls Tryz.prog 97 #[v, .int .i64 1, .int .i64 x] w (AppIs w B v l (leBytes 1 x)) := by
  obtain ⟨i0, hi0, hz0, hz1, hz2⟩ := info_parts info5
  obtain ⟨av, cv, rfl, _⟩ := bytesAt_own hv
  have HV := Lib.hid hv
  clear hv
  go_enter Tryz.func97, Tryz.ntmps97
  go_wp2_with (at_builtin; refine wpList_append_lies _ rfl _ _ 37 rfl B 5 i0 _ 1 1 Tryz.underlying37 hi0 hz0 hz1 hz2 rfl (by omega) _ l.length (bcells l) rfl (HV.out.alloc _) ⟨w.heap.size, 0, none⟩ 1 6 [.int .u8 (x % 256)] rfl rfl (news_first (heap_alloc_new w (.cells #[.int .u8 (x % 256), .int .u8 0, .int .u8 0, .int .u8 0, .int .u8 0, .int .u8 0] 178)) 1) (by simp [Value.oneCell']) (by omega) (by unfold maxLen; omega) (by omega) (by simp; omega) (w.heap.size + 1) (by simp) ?_; intro g cap w2 hown hgrow hat hlt)
  rw [← le_cells1] at hown
  have HO := Lib.hid (app_one (leBytes_length 1 x) hown hgrow hat)
  clear hown hgrow hat hlt
  go_wp2
  go_ret
  exact HO.out

set_option maxRecDepth 100000 in
set_option maxHeartbeats 1000000 in
theorem append_little2 (v : Value) (l : List UInt8) (x : Int) (B : Nat) (w : World) (hv : w.ownsRow B 5 1 v l.length (bcells l)) (hB : B ≤ w.heap.size) (hl : l.length ≤ 140737488355000) :
    Calls Tryz.prog 97 #[v, .int .i64 2, .int .i64 x] w (AppIs w B v l (leBytes 2 x)) := by
  obtain ⟨i0, hi0, hz0, hz1, hz2⟩ := info_parts info5
  obtain ⟨av, cv, rfl, _⟩ := bytesAt_own hv
  have HV := Lib.hid hv
  clear hv
  go_enter Tryz.func97, Tryz.ntmps97
  go_wp2_with (at_builtin; refine wpList_append_lies _ rfl _ _ 37 rfl B 5 i0 _ 1 1 Tryz.underlying37 hi0 hz0 hz1 hz2 rfl (by omega) _ l.length (bcells l) rfl (HV.out.alloc _) ⟨w.heap.size, 0, none⟩ 2 6 [.int .u8 (x % 256), .int .u8 (x / 256 % 256)] rfl rfl (news_first (heap_alloc_new w (.cells #[.int .u8 (x % 256), .int .u8 (x / 256 % 256), .int .u8 0, .int .u8 0, .int .u8 0, .int .u8 0] 178)) 2) (by simp [Value.oneCell']) (by omega) (by unfold maxLen; omega) (by omega) (by simp; omega) (w.heap.size + 1) (by simp) ?_; intro g cap w2 hown hgrow hat hlt)
  rw [← le_cells2] at hown
  have HO := Lib.hid (app_one (leBytes_length 2 x) hown hgrow hat)
  clear hown hgrow hat hlt
  go_wp2
  go_ret
  exact HO.out

set_option maxRecDepth 100000 in
set_option maxHeartbeats 1000000 in
theorem append_little3 (v : Value) (l : List UInt8) (x : Int) (B : Nat) (w : World) (hv : w.ownsRow B 5 1 v l.length (bcells l)) (hB : B ≤ w.heap.size) (hl : l.length ≤ 140737488355000) :
    Calls Tryz.prog 97 #[v, .int .i64 3, .int .i64 x] w (AppIs w B v l (leBytes 3 x)) := by
  obtain ⟨i0, hi0, hz0, hz1, hz2⟩ := info_parts info5
  obtain ⟨av, cv, rfl, _⟩ := bytesAt_own hv
  have HV := Lib.hid hv
  clear hv
  go_enter Tryz.func97, Tryz.ntmps97
  go_wp2_with (at_builtin; refine wpList_append_lies _ rfl _ _ 37 rfl B 5 i0 _ 1 1 Tryz.underlying37 hi0 hz0 hz1 hz2 rfl (by omega) _ l.length (bcells l) rfl (HV.out.alloc _) ⟨w.heap.size, 0, none⟩ 3 6 [.int .u8 (x % 256), .int .u8 (x / 256 % 256), .int .u8 (x / 65536 % 256)] rfl rfl (news_first (heap_alloc_new w (.cells #[.int .u8 (x % 256), .int .u8 (x / 256 % 256), .int .u8 (x / 65536 % 256), .int .u8 0, .int .u8 0, .int .u8 0] 178)) 3) (by simp [Value.oneCell']) (by omega) (by unfold maxLen; omega) (by omega) (by simp; omega) (w.heap.size + 1) (by simp) ?_; intro g cap w2 hown hgrow hat hlt)
  rw [← le_cells3] at hown
  have HO := Lib.hid (app_one (leBytes_length 3 x) hown hgrow hat)
  clear hown hgrow hat hlt
  go_wp2
  go_ret
  exact HO.out

set_option maxRecDepth 100000 in
set_option maxHeartbeats 1000000 in
theorem append_little4 (v : Value) (l : List UInt8) (x : Int) (B : Nat) (w : World) (hv : w.ownsRow B 5 1 v l.length (bcells l)) (hB : B ≤ w.heap.size) (hl : l.length ≤ 140737488355000) :
    Calls Tryz.prog 97 #[v, .int .i64 4, .int .i64 x] w (AppIs w B v l (leBytes 4 x)) := by
  obtain ⟨i0, hi0, hz0, hz1, hz2⟩ := info_parts info5
  obtain ⟨av, cv, rfl, _⟩ := bytesAt_own hv
  have HV := Lib.hid hv
  clear hv
  go_enter Tryz.func97, Tryz.ntmps97
  go_wp2_with (at_builtin; refine wpList_append_lies _ rfl _ _ 37 rfl B 5 i0 _ 1 1 Tryz.underlying37 hi0 hz0 hz1 hz2 rfl (by omega) _ l.length (bcells l) rfl (HV.out.alloc _) ⟨w.heap.size, 0, none⟩ 4 6 [.int .u8 (x % 256), .int .u8 (x / 256 % 256), .int .u8 (x / 65536 % 256), .int .u8 (x / 16777216 % 256)] rfl rfl (news_first (heap_alloc_new w (.cells #[.int .u8 (x % 256), .int .u8 (x / 256 % 256), .int .u8 (x / 65536 % 256), .int .u8 (x / 16777216 % 256), .int .u8 0, .int .u8 0] 178)) 4) (by simp [Value.oneCell']) (by omega) (by unfold maxLen; omega) (by omega) (by simp; omega) (w.heap.size + 1) (by simp) ?_; intro g cap w2 hown hgrow hat hlt)
  rw [← le_cells4] at hown
  have HO := Lib.hid (app_one (leBytes_length 4 x) hown hgrow hat)
  clear hown hgrow hat hlt
  go_wp2
  go_ret
  exact HO.out

set_option maxRecDepth 100000 in
set_option maxHeartbeats 1000000 in
theorem append_little5 (v : Value) (l : List UInt8) (x : Int) (B : Nat) (w : World) (hv : w.ownsRow B 5 1 v l.length (bcells l)) (hB : B ≤ w.heap.size) (hl : l.length ≤ 140737488355000) :
    Calls Tryz.prog 97 #[v, .int .i64 5, .int .i64 x] w (AppIs w B v l (leBytes 5 x)) := by
  obtain ⟨i0, hi0, hz0, hz1, hz2⟩ := info_parts info5
  obtain ⟨av, cv, rfl, _⟩ := bytesAt_own hv
  have HV := Lib.hid hv
  clear hv
  go_enter Tryz.func97, Tryz.ntmps97
  go_wp2_with (at_builtin; refine wpList_append_lies _ rfl _ _ 37 rfl B 5 i0 _ 1 1 Tryz.underlying37 hi0 hz0 hz1 hz2 rfl (by omega) _ l.length (bcells l) rfl (HV.out.alloc _) ⟨w.heap.size, 0, none⟩ 5 6 [.int .u8 (x % 256), .int .u8 (x / 256 % 256), .int .u8 (x / 65536 % 256), .int .u8 (x / 16777216 % 256), .int .u8 (x / 4294967296 % 256)] rfl rfl (news_first (heap_alloc_new w (.cells #[.int .u8 (x % 256), .int .u8 (x / 256 % 256), .int .u8 (x / 65536 % 256), .int .u8 (x / 16777216 % 256), .int .u8 (x / 4294967296 % 256), .int .u8 0] 178)) 5) (by simp [Value.oneCell']) (by omega) (by unfold maxLen; omega) (by omega) (by simp; omega) (w.heap.size + 1) (by simp) ?_; intro g cap w2 hown hgrow hat hlt)
  rw [← le_cells5] at hown
  have HO := Lib.hid (app_one (leBytes_length 5 x) hown hgrow hat)
  clear hown hgrow hat hlt
  go_wp2
  go_ret
  exact HO.out

set_option maxRecDepth 100000 in
set_option maxHeartbeats 1000000 in
theorem append_little6 (v : Value) (l : List UInt8) (x : Int) (B : Nat) (w : World) (hv : w.ownsRow B 5 1 v l.length (bcells l)) (hB : B ≤ w.heap.size) (hl : l.length ≤ 140737488355000) :
    Calls Tryz.prog 97 #[v, .int .i64 6, .int .i64 x] w (AppIs w B v l (leBytes 6 x)) := by
  obtain ⟨i0, hi0, hz0, hz1, hz2⟩ := info_parts info5
  obtain ⟨av, cv, rfl, _⟩ := bytesAt_own hv
  have HV := Lib.hid hv
  clear hv
  go_enter Tryz.func97, Tryz.ntmps97
  go_wp2_with (at_builtin; refine wpList_append_lies _ rfl _ _ 37 rfl B 5 i0 _ 1 1 Tryz.underlying37 hi0 hz0 hz1 hz2 rfl (by omega) _ l.length (bcells l) rfl (HV.out.alloc _) ⟨w.heap.size, 0, none⟩ 6 6 [.int .u8 (x % 256), .int .u8 (x / 256 % 256), .int .u8 (x / 65536 % 256), .int .u8 (x / 16777216 % 256), .int .u8 (x / 4294967296 % 256), .int .u8 (x / 1099511627776 % 256)] rfl rfl (news_first (heap_alloc_new w (.cells #[.int .u8 (x % 256), .int .u8 (x / 256 % 256), .int .u8 (x / 65536 % 256), .int .u8 (x / 16777216 % 256), .int .u8 (x / 4294967296 % 256), .int .u8 (x / 1099511627776 % 256)] 178)) 6) (by simp [Value.oneCell']) (by omega) (by unfold maxLen; omega) (by omega) (by simp; omega) (w.heap.size + 1) (by simp) ?_; intro g cap w2 hown hgrow hat hlt)
  rw [← le_cells6] at hown
  have HO := Lib.hid (app_one (leBytes_length 6 x) hown hgrow hat)
  clear hown hgrow hat hlt
  go_wp2
  go_ret
  exact HO.out

theorem append_little (n : Nat) (h1 : 1 ≤ n) (h2 : n ≤ 6) (v : Value) (l : List UInt8) (x : Int) (B : Nat) (w : World) (hv : w.ownsRow B 5 1 v l.length (bcells l)) (hB : B ≤ w.heap.size) (hl : l.length ≤ 140737488355000) :
    Calls Tryz.prog 97 #[v, .int .i64 (n : Int), .int .i64 x] w (AppIs w B v l (leBytes n x)) := by
  match n, h1, h2 with
  | 1, _, _ => exact append_little1 v l x B w hv hB hl
  | 2, _, _ => exact append_little2 v l x B w hv hB hl
  | 3, _, _ => exact append_little3 v l x B w hv hB hl
  | 4, _, _ => exact append_little4 v l x B w hv hB hl
  | 5, _, _ => exact append_little5 v l x B w hv hB hl
  | 6, _, _ => exact append_little6 v l x B w hv hB hl
  | n + 7, _, h2 => omega

def byteOf (y : Int) : UInt8 := UInt8.ofNat (y % 256).toNat
theorem one_cell (y : Int) : [.int .u8 (y % 256)] = bcells [byteOf y] := by
  simp only [byteOf, bcells, List.map, cell_byte]
end Go.Proofs.YtpocjmlkhophoaaGreatDoor
