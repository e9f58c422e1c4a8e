/- yardref2.Le of two bytes: the document's own row; memory that was there stands. -/
import Derived.Test.YthcehcfeedikkaaDoorByt
import Derived.Test.YthcehcfeedikkaaDoorMem
namespace Go.Proofs.YthcehcfeedikkaaDoor
open Go.RowKit Go.Extern.Stop Go.Stop Go.Extern

/-- The n lowest bytes of a number, the lowest first. -/
def leBytes : Nat → Int → List UInt8
  | 0, _ => []
  | n + 1, x => UInt8.ofNat (x % 256).toNat :: leBytes n (x / 256)
theorem leBytes_length : ∀ (n : Nat) (x : Int), (leBytes n x).length = n
  | 0, _ => rfl
  | n + 1, x => by simp [leBytes, leBytes_length n]
theorem cell_byte (y : Int) : (.int .u8 ((UInt8.ofNat (y % 256).toNat).toNat : Int) : Value) = .int .u8 (y % 256) := by
  rw [UInt8.toNat_ofNat']
  congr 1
  omega
def byteOf (y : Int) : UInt8 := UInt8.ofNat (y % 256).toNat
theorem one_cell (y : Int) : [.int .u8 (y % 256)] = bcells [byteOf y] := by
  simp only [byteOf, bcells, List.map, cell_byte]
theorem le_list2 (x : Int) : leBytes 2 x = [byteOf x, byteOf (x / 256)] := by
  simp only [leBytes, byteOf]

set_option maxRecDepth 100000 in
set_option maxHeartbeats 2000000 in
theorem le2 (x : Int) (w : World) : Calls Tryd.prog 27 #[.int .i64 2, .int .i64 x] w (CopyIs w (leBytes 2 x)) := by
  obtain ⟨i0, hi0, hz0, hz1, hz2⟩ := info_parts info5
  have T0 := Lib.hid (World.ownsRow_nil w w.heap.size 5 1)
  have HB0 := Lib.hid (Below.refl w.heap.size w)
  go_enter Tryd.func27, Tryd.ntmps27
  go_wp2
  refine wp_loop_rounds 3 ?_
  rw [rounds_succ]
  go_wp2_with (at_builtin; refine wpList_append_lies _ rfl _ _ 22 rfl w.heap.size 5 i0 _ 1 1 Tryd.underlying22 hi0 hz0 hz1 hz2 rfl (by omega) _ 0 (bcells []) rfl (T0.out.alloc _) ⟨w.heap.size, 0, none⟩ 1 1 [.int .u8 (x % 256)] rfl rfl (World.news_of_block (cs := #[.int .u8 (x % 256)]) (heap_alloc_new w _)) (by simp [Value.oneCell']) (by omega) (by unfold maxLen; omega) (by omega) (by simp) (w.heap.size + 1) (by simp) ?_)
  intro g1 cap1 u1 hown hgrow hat hlt
  rw [one_cell x, ← bcells_append] at hown
  have T1 : Hid (u1.ownsRow w.heap.size 5 1 (.slice (some ⟨g1, 0, none⟩) 1 cap1) 1 (bcells [byteOf x])) := Lib.hid hown
  have HB1 := Lib.hid ((HB0.out.alloc HB0.out.size _).grown hgrow (by simp) (fun j hj => (T0.out.lt j hj).1))
  clear hown hgrow hat hlt
  go_wp2
  rw [rounds_succ]
  go_wp2_with (at_builtin; refine wpList_append_lies _ rfl _ _ 22 rfl w.heap.size 5 i0 _ 1 1 Tryd.underlying22 hi0 hz0 hz1 hz2 rfl (by omega) _ 1 (bcells [byteOf x]) rfl (T1.out.alloc _) ⟨u1.heap.size, 0, none⟩ 1 1 [.int .u8 (x / 256 % 256)] rfl rfl (World.news_of_block (cs := #[.int .u8 (x / 256 % 256)]) (heap_alloc_new u1 _)) (by simp [Value.oneCell']) (by omega) (by unfold maxLen; omega) (by omega) (by have := HB1.out.size; simp; omega) (u1.heap.size + 1) (by simp) ?_)
  intro g2 cap2 u2 hown hgrow hat hlt
  rw [one_cell (x / 256), ← bcells_append] at hown
  have T2 : Hid (u2.ownsRow w.heap.size 5 1 (.slice (some ⟨g2, 0, none⟩) 2 cap2) 2 (bcells [byteOf x, byteOf (x / 256)])) := Lib.hid hown
  have HB2 := Lib.hid ((HB1.out.alloc HB1.out.size _).grown hgrow (by have := HB1.out.size; simp; omega) (fun j hj => (T1.out.lt j hj).1))
  clear hown hgrow hat hlt
  go_wp2
  rw [rounds_succ]
  go_wp2
  go_ret
  rw [le_list2]
  exact ⟨_, rfl, T2.out, HB2.out⟩

end Go.Proofs.YthcehcfeedikkaaDoor
