/- yardref2.Le, yardref2.turned and yardref2.num, at one to six bytes: the document's own rows and numbers; memory that was there stands. -/
import Derived.Test.YtpdngcjgfngnjaaDoorOps
namespace Go.Proofs.YtpdngcjgfngnjaaDoor
open Go.RowKit Go.Extern.Stop Go.Stop Go.Extern

theorem le_list1 (x : Int) : leBytes 1 x = [byteOf x] := by
  simp only [leBytes, byteOf]
theorem le_list2 (x : Int) : leBytes 2 x = [byteOf x, byteOf (x / 256)] := by
  simp only [leBytes, byteOf]
theorem le_list3 (x : Int) : leBytes 3 x = [byteOf x, byteOf (x / 256), byteOf (x / 65536)] := by
  simp only [leBytes, byteOf]
  rw [show x / 256 / 256 = x / 65536 by omega]
theorem le_list4 (x : Int) : leBytes 4 x = [byteOf x, byteOf (x / 256), byteOf (x / 65536), byteOf (x / 16777216)] := by
  simp only [leBytes, byteOf]
  rw [show x / 256 / 256 = x / 65536 by omega, show x / 65536 / 256 = x / 16777216 by omega]
theorem le_list5 (x : Int) : leBytes 5 x = [byteOf x, byteOf (x / 256), byteOf (x / 65536), byteOf (x / 16777216), byteOf (x / 4294967296)] := by
  simp only [leBytes, byteOf]
  rw [show x / 256 / 256 = x / 65536 by omega, show x / 65536 / 256 = x / 16777216 by omega, show x / 16777216 / 256 = x / 4294967296 by omega]
theorem le_list6 (x : Int) : leBytes 6 x = [byteOf x, byteOf (x / 256), byteOf (x / 65536), byteOf (x / 16777216), byteOf (x / 4294967296), byteOf (x / 1099511627776)] := by
  simp only [leBytes, byteOf]
  rw [show x / 256 / 256 = x / 65536 by omega, show x / 65536 / 256 = x / 16777216 by omega, show x / 16777216 / 256 = x / 4294967296 by omega, show x / 4294967296 / 256 = x / 1099511627776 by omega]

set_option maxRecDepth 100000 in
set_option maxHeartbeats 2000000 in
theorem le1 (x : Int) (w : World) : Calls Tryd.prog 55 #[.int .i64 1, .int .i64 x] w (CopyIs w (leBytes 1 x)) := by
  obtain ⟨i0, hi0, hz0, hz1, hz2⟩ := info_parts info5
  have T0 := Lib.hid (World.ownsRow_nil w w.heap.size 5 1)
  have HB0 := Lib.hid (Below.refl w.heap.size w)
  go_enter Tryd.func55, Tryd.ntmps55
  go_wp2
  refine wp_loop_rounds 2 ?_
  rw [rounds_succ]
  go_wp2_with (at_builtin; refine wpList_append_lies _ rfl _ _ 22 rfl w.heap.size 5 i0 _ 1 1 Tryd.underlying22 hi0 hz0 hz1 hz2 rfl (by omega) _ 0 (bcells []) rfl (T0.out.alloc _) ⟨w.heap.size, 0, none⟩ 1 1 [.int .u8 (x % 256)] rfl rfl (World.news_of_block (cs := #[.int .u8 (x % 256)]) (heap_alloc_new w _)) (by simp [Value.oneCell']) (by omega) (by unfold maxLen; omega) (by omega) (by simp) (w.heap.size + 1) (by simp) ?_)
  intro g1 cap1 u1 hown hgrow hat hlt
  rw [one_cell x, ← bcells_append] at hown
  have T1 : Hid (u1.ownsRow w.heap.size 5 1 (.slice (some ⟨g1, 0, none⟩) 1 cap1) 1 (bcells [byteOf x])) := Lib.hid hown
  have HB1 := Lib.hid ((HB0.out.alloc HB0.out.size _).grown hgrow (by simp) (fun j hj => (T0.out.lt j hj).1))
  clear hown hgrow hat hlt
  go_wp2
  rw [rounds_succ]
  go_wp2
  go_ret
  rw [le_list1]
  exact ⟨_, rfl, T1.out, HB1.out⟩

set_option maxRecDepth 100000 in
set_option maxHeartbeats 2000000 in
theorem le2 (x : Int) (w : World) : Calls Tryd.prog 55 #[.int .i64 2, .int .i64 x] w (CopyIs w (leBytes 2 x)) := by
  obtain ⟨i0, hi0, hz0, hz1, hz2⟩ := info_parts info5
  have T0 := Lib.hid (World.ownsRow_nil w w.heap.size 5 1)
  have HB0 := Lib.hid (Below.refl w.heap.size w)
  go_enter Tryd.func55, Tryd.ntmps55
  go_wp2
  refine wp_loop_rounds 3 ?_
  rw [rounds_succ]
  go_wp2_with (at_builtin; refine wpList_append_lies _ rfl _ _ 22 rfl w.heap.size 5 i0 _ 1 1 Tryd.underlying22 hi0 hz0 hz1 hz2 rfl (by omega) _ 0 (bcells []) rfl (T0.out.alloc _) ⟨w.heap.size, 0, none⟩ 1 1 [.int .u8 (x % 256)] rfl rfl (World.news_of_block (cs := #[.int .u8 (x % 256)]) (heap_alloc_new w _)) (by simp [Value.oneCell']) (by omega) (by unfold maxLen; omega) (by omega) (by simp) (w.heap.size + 1) (by simp) ?_)
  intro g1 cap1 u1 hown hgrow hat hlt
  rw [one_cell x, ← bcells_append] at hown
  have T1 : Hid (u1.ownsRow w.heap.size 5 1 (.slice (some ⟨g1, 0, none⟩) 1 cap1) 1 (bcells [byteOf x])) := Lib.hid hown
  have HB1 := Lib.hid ((HB0.out.alloc HB0.out.size _).grown hgrow (by simp) (fun j hj => (T0.out.lt j hj).1))
  clear hown hgrow hat hlt
  go_wp2
  rw [rounds_succ]
  go_wp2_with (at_builtin; refine wpList_append_lies _ rfl _ _ 22 rfl w.heap.size 5 i0 _ 1 1 Tryd.underlying22 hi0 hz0 hz1 hz2 rfl (by omega) _ 1 (bcells [byteOf x]) rfl (T1.out.alloc _) ⟨u1.heap.size, 0, none⟩ 1 1 [.int .u8 (x / 256 % 256)] rfl rfl (World.news_of_block (cs := #[.int .u8 (x / 256 % 256)]) (heap_alloc_new u1 _)) (by simp [Value.oneCell']) (by omega) (by unfold maxLen; omega) (by omega) (by have := HB1.out.size; simp; omega) (u1.heap.size + 1) (by simp) ?_)
  intro g2 cap2 u2 hown hgrow hat hlt
  rw [one_cell (x / 256), ← bcells_append] at hown
  have T2 : Hid (u2.ownsRow w.heap.size 5 1 (.slice (some ⟨g2, 0, none⟩) 2 cap2) 2 (bcells [byteOf x, byteOf (x / 256)])) := Lib.hid hown
  have HB2 := Lib.hid ((HB1.out.alloc HB1.out.size _).grown hgrow (by have := HB1.out.size; simp; omega) (fun j hj => (T1.out.lt j hj).1))
  clear hown hgrow hat hlt
  go_wp2
  rw [rounds_succ]
  go_wp2
  go_ret
  rw [le_list2]
  exact ⟨_, rfl, T2.out, HB2.out⟩

set_option maxRecDepth 100000 in
set_option maxHeartbeats 2000000 in
theorem le3 (x : Int) (w : World) : Calls Tryd.prog 55 #[.int .i64 3, .int .i64 x] w (CopyIs w (leBytes 3 x)) := by
  obtain ⟨i0, hi0, hz0, hz1, hz2⟩ := info_parts info5
  have T0 := Lib.hid (World.ownsRow_nil w w.heap.size 5 1)
  have HB0 := Lib.hid (Below.refl w.heap.size w)
  go_enter Tryd.func55, Tryd.ntmps55
  go_wp2
  refine wp_loop_rounds 4 ?_
  rw [rounds_succ]
  go_wp2_with (at_builtin; refine wpList_append_lies _ rfl _ _ 22 rfl w.heap.size 5 i0 _ 1 1 Tryd.underlying22 hi0 hz0 hz1 hz2 rfl (by omega) _ 0 (bcells []) rfl (T0.out.alloc _) ⟨w.heap.size, 0, none⟩ 1 1 [.int .u8 (x % 256)] rfl rfl (World.news_of_block (cs := #[.int .u8 (x % 256)]) (heap_alloc_new w _)) (by simp [Value.oneCell']) (by omega) (by unfold maxLen; omega) (by omega) (by simp) (w.heap.size + 1) (by simp) ?_)
  intro g1 cap1 u1 hown hgrow hat hlt
  rw [one_cell x, ← bcells_append] at hown
  have T1 : Hid (u1.ownsRow w.heap.size 5 1 (.slice (some ⟨g1, 0, none⟩) 1 cap1) 1 (bcells [byteOf x])) := Lib.hid hown
  have HB1 := Lib.hid ((HB0.out.alloc HB0.out.size _).grown hgrow (by simp) (fun j hj => (T0.out.lt j hj).1))
  clear hown hgrow hat hlt
  go_wp2
  rw [rounds_succ]
  go_wp2_with (at_builtin; refine wpList_append_lies _ rfl _ _ 22 rfl w.heap.size 5 i0 _ 1 1 Tryd.underlying22 hi0 hz0 hz1 hz2 rfl (by omega) _ 1 (bcells [byteOf x]) rfl (T1.out.alloc _) ⟨u1.heap.size, 0, none⟩ 1 1 [.int .u8 (x / 256 % 256)] rfl rfl (World.news_of_block (cs := #[.int .u8 (x / 256 % 256)]) (heap_alloc_new u1 _)) (by simp [Value.oneCell']) (by omega) (by unfold maxLen; omega) (by omega) (by have := HB1.out.size; simp; omega) (u1.heap.size + 1) (by simp) ?_)
  intro g2 cap2 u2 hown hgrow hat hlt
  rw [one_cell (x / 256), ← bcells_append] at hown
  have T2 : Hid (u2.ownsRow w.heap.size 5 1 (.slice (some ⟨g2, 0, none⟩) 2 cap2) 2 (bcells [byteOf x, byteOf (x / 256)])) := Lib.hid hown
  have HB2 := Lib.hid ((HB1.out.alloc HB1.out.size _).grown hgrow (by have := HB1.out.size; simp; omega) (fun j hj => (T1.out.lt j hj).1))
  clear hown hgrow hat hlt
  go_wp2
  rw [rounds_succ]
  go_wp2_with (at_builtin; refine wpList_append_lies _ rfl _ _ 22 rfl w.heap.size 5 i0 _ 1 1 Tryd.underlying22 hi0 hz0 hz1 hz2 rfl (by omega) _ 2 (bcells [byteOf x, byteOf (x / 256)]) rfl (T2.out.alloc _) ⟨u2.heap.size, 0, none⟩ 1 1 [.int .u8 (x / 65536 % 256)] rfl rfl (World.news_of_block (cs := #[.int .u8 (x / 65536 % 256)]) (heap_alloc_new u2 _)) (by simp [Value.oneCell']) (by omega) (by unfold maxLen; omega) (by omega) (by have := HB2.out.size; simp; omega) (u2.heap.size + 1) (by simp) ?_)
  intro g3 cap3 u3 hown hgrow hat hlt
  rw [one_cell (x / 65536), ← bcells_append] at hown
  have T3 : Hid (u3.ownsRow w.heap.size 5 1 (.slice (some ⟨g3, 0, none⟩) 3 cap3) 3 (bcells [byteOf x, byteOf (x / 256), byteOf (x / 65536)])) := Lib.hid hown
  have HB3 := Lib.hid ((HB2.out.alloc HB2.out.size _).grown hgrow (by have := HB2.out.size; simp; omega) (fun j hj => (T2.out.lt j hj).1))
  clear hown hgrow hat hlt
  go_wp2
  rw [rounds_succ]
  go_wp2
  go_ret
  rw [le_list3]
  exact ⟨_, rfl, T3.out, HB3.out⟩

set_option maxRecDepth 100000 in
set_option maxHeartbeats 2000000 in
theorem le4 (x : Int) (w : World) : Calls Tryd.prog 55 #[.int .i64 4, .int .i64 x] w (CopyIs w (leBytes 4 x)) := by
  obtain ⟨i0, hi0, hz0, hz1, hz2⟩ := info_parts info5
  have T0 := Lib.hid (World.ownsRow_nil w w.heap.size 5 1)
  have HB0 := Lib.hid (Below.refl w.heap.size w)
  go_enter Tryd.func55, Tryd.ntmps55
  go_wp2
  refine wp_loop_rounds 5 ?_
  rw [rounds_succ]
  go_wp2_with (at_builtin; refine wpList_append_lies _ rfl _ _ 22 rfl w.heap.size 5 i0 _ 1 1 Tryd.underlying22 hi0 hz0 hz1 hz2 rfl (by omega) _ 0 (bcells []) rfl (T0.out.alloc _) ⟨w.heap.size, 0, none⟩ 1 1 [.int .u8 (x % 256)] rfl rfl (World.news_of_block (cs := #[.int .u8 (x % 256)]) (heap_alloc_new w _)) (by simp [Value.oneCell']) (by omega) (by unfold maxLen; omega) (by omega) (by simp) (w.heap.size + 1) (by simp) ?_)
  intro g1 cap1 u1 hown hgrow hat hlt
  rw [one_cell x, ← bcells_append] at hown
  have T1 : Hid (u1.ownsRow w.heap.size 5 1 (.slice (some ⟨g1, 0, none⟩) 1 cap1) 1 (bcells [byteOf x])) := Lib.hid hown
  have HB1 := Lib.hid ((HB0.out.alloc HB0.out.size _).grown hgrow (by simp) (fun j hj => (T0.out.lt j hj).1))
  clear hown hgrow hat hlt
  go_wp2
  rw [rounds_succ]
  go_wp2_with (at_builtin; refine wpList_append_lies _ rfl _ _ 22 rfl w.heap.size 5 i0 _ 1 1 Tryd.underlying22 hi0 hz0 hz1 hz2 rfl (by omega) _ 1 (bcells [byteOf x]) rfl (T1.out.alloc _) ⟨u1.heap.size, 0, none⟩ 1 1 [.int .u8 (x / 256 % 256)] rfl rfl (World.news_of_block (cs := #[.int .u8 (x / 256 % 256)]) (heap_alloc_new u1 _)) (by simp [Value.oneCell']) (by omega) (by unfold maxLen; omega) (by omega) (by have := HB1.out.size; simp; omega) (u1.heap.size + 1) (by simp) ?_)
  intro g2 cap2 u2 hown hgrow hat hlt
  rw [one_cell (x / 256), ← bcells_append] at hown
  have T2 : Hid (u2.ownsRow w.heap.size 5 1 (.slice (some ⟨g2, 0, none⟩) 2 cap2) 2 (bcells [byteOf x, byteOf (x / 256)])) := Lib.hid hown
  have HB2 := Lib.hid ((HB1.out.alloc HB1.out.size _).grown hgrow (by have := HB1.out.size; simp; omega) (fun j hj => (T1.out.lt j hj).1))
  clear hown hgrow hat hlt
  go_wp2
  rw [rounds_succ]
  go_wp2_with (at_builtin; refine wpList_append_lies _ rfl _ _ 22 rfl w.heap.size 5 i0 _ 1 1 Tryd.underlying22 hi0 hz0 hz1 hz2 rfl (by omega) _ 2 (bcells [byteOf x, byteOf (x / 256)]) rfl (T2.out.alloc _) ⟨u2.heap.size, 0, none⟩ 1 1 [.int .u8 (x / 65536 % 256)] rfl rfl (World.news_of_block (cs := #[.int .u8 (x / 65536 % 256)]) (heap_alloc_new u2 _)) (by simp [Value.oneCell']) (by omega) (by unfold maxLen; omega) (by omega) (by have := HB2.out.size; simp; omega) (u2.heap.size + 1) (by simp) ?_)
  intro g3 cap3 u3 hown hgrow hat hlt
  rw [one_cell (x / 65536), ← bcells_append] at hown
  have T3 : Hid (u3.ownsRow w.heap.size 5 1 (.slice (some ⟨g3, 0, none⟩) 3 cap3) 3 (bcells [byteOf x, byteOf (x / 256), byteOf (x / 65536)])) := Lib.hid hown
  have HB3 := Lib.hid ((HB2.out.alloc HB2.out.size _).grown hgrow (by have := HB2.out.size; simp; omega) (fun j hj => (T2.out.lt j hj).1))
  clear hown hgrow hat hlt
  go_wp2
  rw [rounds_succ]
  go_wp2_with (at_builtin; refine wpList_append_lies _ rfl _ _ 22 rfl w.heap.size 5 i0 _ 1 1 Tryd.underlying22 hi0 hz0 hz1 hz2 rfl (by omega) _ 3 (bcells [byteOf x, byteOf (x / 256), byteOf (x / 65536)]) rfl (T3.out.alloc _) ⟨u3.heap.size, 0, none⟩ 1 1 [.int .u8 (x / 16777216 % 256)] rfl rfl (World.news_of_block (cs := #[.int .u8 (x / 16777216 % 256)]) (heap_alloc_new u3 _)) (by simp [Value.oneCell']) (by omega) (by unfold maxLen; omega) (by omega) (by have := HB3.out.size; simp; omega) (u3.heap.size + 1) (by simp) ?_)
  intro g4 cap4 u4 hown hgrow hat hlt
  rw [one_cell (x / 16777216), ← bcells_append] at hown
  have T4 : Hid (u4.ownsRow w.heap.size 5 1 (.slice (some ⟨g4, 0, none⟩) 4 cap4) 4 (bcells [byteOf x, byteOf (x / 256), byteOf (x / 65536), byteOf (x / 16777216)])) := Lib.hid hown
  have HB4 := Lib.hid ((HB3.out.alloc HB3.out.size _).grown hgrow (by have := HB3.out.size; simp; omega) (fun j hj => (T3.out.lt j hj).1))
  clear hown hgrow hat hlt
  go_wp2
  rw [rounds_succ]
  go_wp2
  go_ret
  rw [le_list4]
  exact ⟨_, rfl, T4.out, HB4.out⟩

set_option maxRecDepth 100000 in
set_option maxHeartbeats 2000000 in
theorem le5 (x : Int) (w : World) : Calls Tryd.prog 55 #[.int .i64 5, .int .i64 x] w (CopyIs w (leBytes 5 x)) := by
  obtain ⟨i0, hi0, hz0, hz1, hz2⟩ := info_parts info5
  have T0 := Lib.hid (World.ownsRow_nil w w.heap.size 5 1)
  have HB0 := Lib.hid (Below.refl w.heap.size w)
  go_enter Tryd.func55, Tryd.ntmps55
  go_wp2
  refine wp_loop_rounds 6 ?_
  rw [rounds_succ]
  go_wp2_with (at_builtin; refine wpList_append_lies _ rfl _ _ 22 rfl w.heap.size 5 i0 _ 1 1 Tryd.underlying22 hi0 hz0 hz1 hz2 rfl (by omega) _ 0 (bcells []) rfl (T0.out.alloc _) ⟨w.heap.size, 0, none⟩ 1 1 [.int .u8 (x % 256)] rfl rfl (World.news_of_block (cs := #[.int .u8 (x % 256)]) (heap_alloc_new w _)) (by simp [Value.oneCell']) (by omega) (by unfold maxLen; omega) (by omega) (by simp) (w.heap.size + 1) (by simp) ?_)
  intro g1 cap1 u1 hown hgrow hat hlt
  rw [one_cell x, ← bcells_append] at hown
  have T1 : Hid (u1.ownsRow w.heap.size 5 1 (.slice (some ⟨g1, 0, none⟩) 1 cap1) 1 (bcells [byteOf x])) := Lib.hid hown
  have HB1 := Lib.hid ((HB0.out.alloc HB0.out.size _).grown hgrow (by simp) (fun j hj => (T0.out.lt j hj).1))
  clear hown hgrow hat hlt
  go_wp2
  rw [rounds_succ]
  go_wp2_with (at_builtin; refine wpList_append_lies _ rfl _ _ 22 rfl w.heap.size 5 i0 _ 1 1 Tryd.underlying22 hi0 hz0 hz1 hz2 rfl (by omega) _ 1 (bcells [byteOf x]) rfl (T1.out.alloc _) ⟨u1.heap.size, 0, none⟩ 1 1 [.int .u8 (x / 256 % 256)] rfl rfl (World.news_of_block (cs := #[.int .u8 (x / 256 % 256)]) (heap_alloc_new u1 _)) (by simp [Value.oneCell']) (by omega) (by unfold maxLen; omega) (by omega) (by have := HB1.out.size; simp; omega) (u1.heap.size + 1) (by simp) ?_)
  intro g2 cap2 u2 hown hgrow hat hlt
  rw [one_cell (x / 256), ← bcells_append] at hown
  have T2 : Hid (u2.ownsRow w.heap.size 5 1 (.slice (some ⟨g2, 0, none⟩) 2 cap2) 2 (bcells [byteOf x, byteOf (x / 256)])) := Lib.hid hown
  have HB2 := Lib.hid ((HB1.out.alloc HB1.out.size _).grown hgrow (by have := HB1.out.size; simp; omega) (fun j hj => (T1.out.lt j hj).1))
  clear hown hgrow hat hlt
  go_wp2
  rw [rounds_succ]
  go_wp2_with (at_builtin; refine wpList_append_lies _ rfl _ _ 22 rfl w.heap.size 5 i0 _ 1 1 Tryd.underlying22 hi0 hz0 hz1 hz2 rfl (by omega) _ 2 (bcells [byteOf x, byteOf (x / 256)]) rfl (T2.out.alloc _) ⟨u2.heap.size, 0, none⟩ 1 1 [.int .u8 (x / 65536 % 256)] rfl rfl (World.news_of_block (cs := #[.int .u8 (x / 65536 % 256)]) (heap_alloc_new u2 _)) (by simp [Value.oneCell']) (by omega) (by unfold maxLen; omega) (by omega) (by have := HB2.out.size; simp; omega) (u2.heap.size + 1) (by simp) ?_)
  intro g3 cap3 u3 hown hgrow hat hlt
  rw [one_cell (x / 65536), ← bcells_append] at hown
  have T3 : Hid (u3.ownsRow w.heap.size 5 1 (.slice (some ⟨g3, 0, none⟩) 3 cap3) 3 (bcells [byteOf x, byteOf (x / 256), byteOf (x / 65536)])) := Lib.hid hown
  have HB3 := Lib.hid ((HB2.out.alloc HB2.out.size _).grown hgrow (by have := HB2.out.size; simp; omega) (fun j hj => (T2.out.lt j hj).1))
  clear hown hgrow hat hlt
  go_wp2
  rw [rounds_succ]
  go_wp2_with (at_builtin; refine wpList_append_lies _ rfl _ _ 22 rfl w.heap.size 5 i0 _ 1 1 Tryd.underlying22 hi0 hz0 hz1 hz2 rfl (by omega) _ 3 (bcells [byteOf x, byteOf (x / 256), byteOf (x / 65536)]) rfl (T3.out.alloc _) ⟨u3.heap.size, 0, none⟩ 1 1 [.int .u8 (x / 16777216 % 256)] rfl rfl (World.news_of_block (cs := #[.int .u8 (x / 16777216 % 256)]) (heap_alloc_new u3 _)) (by simp [Value.oneCell']) (by omega) (by unfold maxLen; omega) (by omega) (by have := HB3.out.size; simp; omega) (u3.heap.size + 1) (by simp) ?_)
  intro g4 cap4 u4 hown hgrow hat hlt
  rw [one_cell (x / 16777216), ← bcells_append] at hown
  have T4 : Hid (u4.ownsRow w.heap.size 5 1 (.slice (some ⟨g4, 0, none⟩) 4 cap4) 4 (bcells [byteOf x, byteOf (x / 256), byteOf (x / 65536), byteOf (x / 16777216)])) := Lib.hid hown
  have HB4 := Lib.hid ((HB3.out.alloc HB3.out.size _).grown hgrow (by have := HB3.out.size; simp; omega) (fun j hj => (T3.out.lt j hj).1))
  clear hown hgrow hat hlt
  go_wp2
  rw [rounds_succ]
  go_wp2_with (at_builtin; refine wpList_append_lies _ rfl _ _ 22 rfl w.heap.size 5 i0 _ 1 1 Tryd.underlying22 hi0 hz0 hz1 hz2 rfl (by omega) _ 4 (bcells [byteOf x, byteOf (x / 256), byteOf (x / 65536), byteOf (x / 16777216)]) rfl (T4.out.alloc _) ⟨u4.heap.size, 0, none⟩ 1 1 [.int .u8 (x / 4294967296 % 256)] rfl rfl (World.news_of_block (cs := #[.int .u8 (x / 4294967296 % 256)]) (heap_alloc_new u4 _)) (by simp [Value.oneCell']) (by omega) (by unfold maxLen; omega) (by omega) (by have := HB4.out.size; simp; omega) (u4.heap.size + 1) (by simp) ?_)
  intro g5 cap5 u5 hown hgrow hat hlt
  rw [one_cell (x / 4294967296), ← bcells_append] at hown
  have T5 : Hid (u5.ownsRow w.heap.size 5 1 (.slice (some ⟨g5, 0, none⟩) 5 cap5) 5 (bcells [byteOf x, byteOf (x / 256), byteOf (x / 65536), byteOf (x / 16777216), byteOf (x / 4294967296)])) := Lib.hid hown
  have HB5 := Lib.hid ((HB4.out.alloc HB4.out.size _).grown hgrow (by have := HB4.out.size; simp; omega) (fun j hj => (T4.out.lt j hj).1))
  clear hown hgrow hat hlt
  go_wp2
  rw [rounds_succ]
  go_wp2
  go_ret
  rw [le_list5]
  exact ⟨_, rfl, T5.out, HB5.out⟩

set_option maxRecDepth 100000 in
set_option maxHeartbeats 2000000 in
theorem le6 (x : Int) (w : World) : Calls Tryd.prog 55 #[.int .i64 6, .int .i64 x] w (CopyIs w (leBytes 6 x)) := by
  obtain ⟨i0, hi0, hz0, hz1, hz2⟩ := info_parts info5
  have T0 := Lib.hid (World.ownsRow_nil w w.heap.size 5 1)
  have HB0 := Lib.hid (Below.refl w.heap.size w)
  go_enter Tryd.func55, Tryd.ntmps55
  go_wp2
  refine wp_loop_rounds 7 ?_
  rw [rounds_succ]
  go_wp2_with (at_builtin; refine wpList_append_lies _ rfl _ _ 22 rfl w.heap.size 5 i0 _ 1 1 Tryd.underlying22 hi0 hz0 hz1 hz2 rfl (by omega) _ 0 (bcells []) rfl (T0.out.alloc _) ⟨w.heap.size, 0, none⟩ 1 1 [.int .u8 (x % 256)] rfl rfl (World.news_of_block (cs := #[.int .u8 (x % 256)]) (heap_alloc_new w _)) (by simp [Value.oneCell']) (by omega) (by unfold maxLen; omega) (by omega) (by simp) (w.heap.size + 1) (by simp) ?_)
  intro g1 cap1 u1 hown hgrow hat hlt
  rw [one_cell x, ← bcells_append] at hown
  have T1 : Hid (u1.ownsRow w.heap.size 5 1 (.slice (some ⟨g1, 0, none⟩) 1 cap1) 1 (bcells [byteOf x])) := Lib.hid hown
  have HB1 := Lib.hid ((HB0.out.alloc HB0.out.size _).grown hgrow (by simp) (fun j hj => (T0.out.lt j hj).1))
  clear hown hgrow hat hlt
  go_wp2
  rw [rounds_succ]
  go_wp2_with (at_builtin; refine wpList_append_lies _ rfl _ _ 22 rfl w.heap.size 5 i0 _ 1 1 Tryd.underlying22 hi0 hz0 hz1 hz2 rfl (by omega) _ 1 (bcells [byteOf x]) rfl (T1.out.alloc _) ⟨u1.heap.size, 0, none⟩ 1 1 [.int .u8 (x / 256 % 256)] rfl rfl (World.news_of_block (cs := #[.int .u8 (x / 256 % 256)]) (heap_alloc_new u1 _)) (by simp [Value.oneCell']) (by omega) (by unfold maxLen; omega) (by omega) (by have := HB1.out.size; simp; omega) (u1.heap.size + 1) (by simp) ?_)
  intro g2 cap2 u2 hown hgrow hat hlt
  rw [one_cell (x / 256), ← bcells_append] at hown
  have T2 : Hid (u2.ownsRow w.heap.size 5 1 (.slice (some ⟨g2, 0, none⟩) 2 cap2) 2 (bcells [byteOf x, byteOf (x / 256)])) := Lib.hid hown
  have HB2 := Lib.hid ((HB1.out.alloc HB1.out.size _).grown hgrow (by have := HB1.out.size; simp; omega) (fun j hj => (T1.out.lt j hj).1))
  clear hown hgrow hat hlt
  go_wp2
  rw [rounds_succ]
  go_wp2_with (at_builtin; refine wpList_append_lies _ rfl _ _ 22 rfl w.heap.size 5 i0 _ 1 1 Tryd.underlying22 hi0 hz0 hz1 hz2 rfl (by omega) _ 2 (bcells [byteOf x, byteOf (x / 256)]) rfl (T2.out.alloc _) ⟨u2.heap.size, 0, none⟩ 1 1 [.int .u8 (x / 65536 % 256)] rfl rfl (World.news_of_block (cs := #[.int .u8 (x / 65536 % 256)]) (heap_alloc_new u2 _)) (by simp [Value.oneCell']) (by omega) (by unfold maxLen; omega) (by omega) (by have := HB2.out.size; simp; omega) (u2.heap.size + 1) (by simp) ?_)
  intro g3 cap3 u3 hown hgrow hat hlt
  rw [one_cell (x / 65536), ← bcells_append] at hown
  have T3 : Hid (u3.ownsRow w.heap.size 5 1 (.slice (some ⟨g3, 0, none⟩) 3 cap3) 3 (bcells [byteOf x, byteOf (x / 256), byteOf (x / 65536)])) := Lib.hid hown
  have HB3 := Lib.hid ((HB2.out.alloc HB2.out.size _).grown hgrow (by have := HB2.out.size; simp; omega) (fun j hj => (T2.out.lt j hj).1))
  clear hown hgrow hat hlt
  go_wp2
  rw [rounds_succ]
  go_wp2_with (at_builtin; refine wpList_append_lies _ rfl _ _ 22 rfl w.heap.size 5 i0 _ 1 1 Tryd.underlying22 hi0 hz0 hz1 hz2 rfl (by omega) _ 3 (bcells [byteOf x, byteOf (x / 256), byteOf (x / 65536)]) rfl (T3.out.alloc _) ⟨u3.heap.size, 0, none⟩ 1 1 [.int .u8 (x / 16777216 % 256)] rfl rfl (World.news_of_block (cs := #[.int .u8 (x / 16777216 % 256)]) (heap_alloc_new u3 _)) (by simp [Value.oneCell']) (by omega) (by unfold maxLen; omega) (by omega) (by have := HB3.out.size; simp; omega) (u3.heap.size + 1) (by simp) ?_)
  intro g4 cap4 u4 hown hgrow hat hlt
  rw [one_cell (x / 16777216), ← bcells_append] at hown
  have T4 : Hid (u4.ownsRow w.heap.size 5 1 (.slice (some ⟨g4, 0, none⟩) 4 cap4) 4 (bcells [byteOf x, byteOf (x / 256), byteOf (x / 65536), byteOf (x / 16777216)])) := Lib.hid hown
  have HB4 := Lib.hid ((HB3.out.alloc HB3.out.size _).grown hgrow (by have := HB3.out.size; simp; omega) (fun j hj => (T3.out.lt j hj).1))
  clear hown hgrow hat hlt
  go_wp2
  rw [rounds_succ]
  go_wp2_with (at_builtin; refine wpList_append_lies _ rfl _ _ 22 rfl w.heap.size 5 i0 _ 1 1 Tryd.underlying22 hi0 hz0 hz1 hz2 rfl (by omega) _ 4 (bcells [byteOf x, byteOf (x / 256), byteOf (x / 65536), byteOf (x / 16777216)]) rfl (T4.out.alloc _) ⟨u4.heap.size, 0, none⟩ 1 1 [.int .u8 (x / 4294967296 % 256)] rfl rfl (World.news_of_block (cs := #[.int .u8 (x / 4294967296 % 256)]) (heap_alloc_new u4 _)) (by simp [Value.oneCell']) (by omega) (by unfold maxLen; omega) (by omega) (by have := HB4.out.size; simp; omega) (u4.heap.size + 1) (by simp) ?_)
  intro g5 cap5 u5 hown hgrow hat hlt
  rw [one_cell (x / 4294967296), ← bcells_append] at hown
  have T5 : Hid (u5.ownsRow w.heap.size 5 1 (.slice (some ⟨g5, 0, none⟩) 5 cap5) 5 (bcells [byteOf x, byteOf (x / 256), byteOf (x / 65536), byteOf (x / 16777216), byteOf (x / 4294967296)])) := Lib.hid hown
  have HB5 := Lib.hid ((HB4.out.alloc HB4.out.size _).grown hgrow (by have := HB4.out.size; simp; omega) (fun j hj => (T4.out.lt j hj).1))
  clear hown hgrow hat hlt
  go_wp2
  rw [rounds_succ]
  go_wp2_with (at_builtin; refine wpList_append_lies _ rfl _ _ 22 rfl w.heap.size 5 i0 _ 1 1 Tryd.underlying22 hi0 hz0 hz1 hz2 rfl (by omega) _ 5 (bcells [byteOf x, byteOf (x / 256), byteOf (x / 65536), byteOf (x / 16777216), byteOf (x / 4294967296)]) rfl (T5.out.alloc _) ⟨u5.heap.size, 0, none⟩ 1 1 [.int .u8 (x / 1099511627776 % 256)] rfl rfl (World.news_of_block (cs := #[.int .u8 (x / 1099511627776 % 256)]) (heap_alloc_new u5 _)) (by simp [Value.oneCell']) (by omega) (by unfold maxLen; omega) (by omega) (by have := HB5.out.size; simp; omega) (u5.heap.size + 1) (by simp) ?_)
  intro g6 cap6 u6 hown hgrow hat hlt
  rw [one_cell (x / 1099511627776), ← bcells_append] at hown
  have T6 : Hid (u6.ownsRow w.heap.size 5 1 (.slice (some ⟨g6, 0, none⟩) 6 cap6) 6 (bcells [byteOf x, byteOf (x / 256), byteOf (x / 65536), byteOf (x / 16777216), byteOf (x / 4294967296), byteOf (x / 1099511627776)])) := Lib.hid hown
  have HB6 := Lib.hid ((HB5.out.alloc HB5.out.size _).grown hgrow (by have := HB5.out.size; simp; omega) (fun j hj => (T5.out.lt j hj).1))
  clear hown hgrow hat hlt
  go_wp2
  rw [rounds_succ]
  go_wp2
  go_ret
  rw [le_list6]
  exact ⟨_, rfl, T6.out, HB6.out⟩

theorem le_any (n : Nat) (h1 : 1 ≤ n) (h2 : n ≤ 6) (x : Int) (w : World) : Calls Tryd.prog 55 #[.int .i64 (n : Int), .int .i64 x] w (CopyIs w (leBytes n x)) := by
  match n, h1, h2 with
  | 1, _, _ => exact le1 x w
  | 2, _, _ => exact le2 x w
  | 3, _, _ => exact le3 x w
  | 4, _, _ => exact le4 x w
  | 5, _, _ => exact le5 x w
  | 6, _, _ => exact le6 x w
  | n + 7, _, h2 => omega

set_option maxRecDepth 100000 in
set_option maxHeartbeats 2000000 in
theorem turned1 (b0 : UInt8) (v : Value) (w : World) (hv : BytesAt w v [b0]) : Calls Tryd.prog 51 #[v] w (CopyIs w [b0]) := by
  obtain ⟨i0, hi0, hz0, hz1, hz2⟩ := info_parts info5
  have HV := Lib.hid hv
  obtain ⟨ao, cap, rfl, _⟩ := hv
  have T0 := Lib.hid (World.ownsRow_nil w w.heap.size 5 1)
  have HB0 := Lib.hid (Below.refl w.heap.size w)
  have l0 := byte_lt b0
  go_enter Tryd.func51, Tryd.ntmps51
  go_wp2
  refine wp_loop_rounds 2 ?_
  rw [rounds_succ]
  obtain ⟨b, off, hao, hcell⟩ := (HV.out.on HB0.out).at' 0 (by simp)
  cases hao
  simp at hcell
  go_wp2_with (at_builtin; refine wpList_append_lies _ rfl _ _ 22 rfl w.heap.size 5 i0 _ 1 1 Tryd.underlying22 hi0 hz0 hz1 hz2 rfl (by omega) _ 0 (bcells []) rfl (T0.out.alloc _) ⟨w.heap.size, 0, none⟩ 1 1 [.int .u8 (b0.toNat : Int)] rfl rfl (World.news_of_block (cs := #[.int .u8 (b0.toNat : Int)]) (heap_alloc_new w _)) (by simp [Value.oneCell']) (by omega) (by unfold maxLen; omega) (by omega) (by simp) (w.heap.size + 1) (by simp) ?_)
  intro g1 cap1 u1 hown hgrow hat hlt
  have T1 : Hid (u1.ownsRow w.heap.size 5 1 (.slice (some ⟨g1, 0, none⟩) 1 cap1) 1 (bcells [b0])) := Lib.hid hown
  have HB1 := Lib.hid ((HB0.out.alloc HB0.out.size _).grown hgrow (by simp) (fun j hj => (T0.out.lt j hj).1))
  clear hown hgrow hat hlt hcell
  go_wp2
  rw [rounds_succ]
  go_wp2
  go_ret
  exact ⟨_, rfl, T1.out, HB1.out⟩

set_option maxRecDepth 100000 in
set_option maxHeartbeats 2000000 in
theorem turned2 (b0 b1 : UInt8) (v : Value) (w : World) (hv : BytesAt w v [b0, b1]) : Calls Tryd.prog 51 #[v] w (CopyIs w [b1, b0]) := by
  obtain ⟨i0, hi0, hz0, hz1, hz2⟩ := info_parts info5
  have HV := Lib.hid hv
  obtain ⟨ao, cap, rfl, _⟩ := hv
  have T0 := Lib.hid (World.ownsRow_nil w w.heap.size 5 1)
  have HB0 := Lib.hid (Below.refl w.heap.size w)
  have l0 := byte_lt b0
  have l1 := byte_lt b1
  go_enter Tryd.func51, Tryd.ntmps51
  go_wp2
  refine wp_loop_rounds 3 ?_
  rw [rounds_succ]
  obtain ⟨b, off, hao, hcell⟩ := (HV.out.on HB0.out).at' 1 (by simp)
  cases hao
  simp at hcell
  go_wp2_with (at_builtin; refine wpList_append_lies _ rfl _ _ 22 rfl w.heap.size 5 i0 _ 1 1 Tryd.underlying22 hi0 hz0 hz1 hz2 rfl (by omega) _ 0 (bcells []) rfl (T0.out.alloc _) ⟨w.heap.size, 0, none⟩ 1 1 [.int .u8 (b1.toNat : Int)] rfl rfl (World.news_of_block (cs := #[.int .u8 (b1.toNat : Int)]) (heap_alloc_new w _)) (by simp [Value.oneCell']) (by omega) (by unfold maxLen; omega) (by omega) (by simp) (w.heap.size + 1) (by simp) ?_)
  intro g1 cap1 u1 hown hgrow hat hlt
  have T1 : Hid (u1.ownsRow w.heap.size 5 1 (.slice (some ⟨g1, 0, none⟩) 1 cap1) 1 (bcells [b1])) := Lib.hid hown
  have HB1 := Lib.hid ((HB0.out.alloc HB0.out.size _).grown hgrow (by simp) (fun j hj => (T0.out.lt j hj).1))
  clear hown hgrow hat hlt hcell
  go_wp2
  rw [rounds_succ]
  obtain ⟨b, off, hao, hcell⟩ := (HV.out.on HB1.out).at' 0 (by simp)
  cases hao
  simp at hcell
  go_wp2_with (at_builtin; refine wpList_append_lies _ rfl _ _ 22 rfl w.heap.size 5 i0 _ 1 1 Tryd.underlying22 hi0 hz0 hz1 hz2 rfl (by omega) _ 1 (bcells [b1]) rfl (T1.out.alloc _) ⟨u1.heap.size, 0, none⟩ 1 1 [.int .u8 (b0.toNat : Int)] rfl rfl (World.news_of_block (cs := #[.int .u8 (b0.toNat : Int)]) (heap_alloc_new u1 _)) (by simp [Value.oneCell']) (by omega) (by unfold maxLen; omega) (by omega) (by have := HB1.out.size; simp; omega) (u1.heap.size + 1) (by simp) ?_)
  intro g2 cap2 u2 hown hgrow hat hlt
  have T2 : Hid (u2.ownsRow w.heap.size 5 1 (.slice (some ⟨g2, 0, none⟩) 2 cap2) 2 (bcells [b1, b0])) := Lib.hid hown
  have HB2 := Lib.hid ((HB1.out.alloc HB1.out.size _).grown hgrow (by have := HB1.out.size; simp; omega) (fun j hj => (T1.out.lt j hj).1))
  clear hown hgrow hat hlt hcell
  go_wp2
  rw [rounds_succ]
  go_wp2
  go_ret
  exact ⟨_, rfl, T2.out, HB2.out⟩

set_option maxRecDepth 100000 in
set_option maxHeartbeats 2000000 in
theorem turned3 (b0 b1 b2 : UInt8) (v : Value) (w : World) (hv : BytesAt w v [b0, b1, b2]) : Calls Tryd.prog 51 #[v] w (CopyIs w [b2, b1, b0]) := by
  obtain ⟨i0, hi0, hz0, hz1, hz2⟩ := info_parts info5
  have HV := Lib.hid hv
  obtain ⟨ao, cap, rfl, _⟩ := hv
  have T0 := Lib.hid (World.ownsRow_nil w w.heap.size 5 1)
  have HB0 := Lib.hid (Below.refl w.heap.size w)
  have l0 := byte_lt b0
  have l1 := byte_lt b1
  have l2 := byte_lt b2
  go_enter Tryd.func51, Tryd.ntmps51
  go_wp2
  refine wp_loop_rounds 4 ?_
  rw [rounds_succ]
  obtain ⟨b, off, hao, hcell⟩ := (HV.out.on HB0.out).at' 2 (by simp)
  cases hao
  simp at hcell
  go_wp2_with (at_builtin; refine wpList_append_lies _ rfl _ _ 22 rfl w.heap.size 5 i0 _ 1 1 Tryd.underlying22 hi0 hz0 hz1 hz2 rfl (by omega) _ 0 (bcells []) rfl (T0.out.alloc _) ⟨w.heap.size, 0, none⟩ 1 1 [.int .u8 (b2.toNat : Int)] rfl rfl (World.news_of_block (cs := #[.int .u8 (b2.toNat : Int)]) (heap_alloc_new w _)) (by simp [Value.oneCell']) (by omega) (by unfold maxLen; omega) (by omega) (by simp) (w.heap.size + 1) (by simp) ?_)
  intro g1 cap1 u1 hown hgrow hat hlt
  have T1 : Hid (u1.ownsRow w.heap.size 5 1 (.slice (some ⟨g1, 0, none⟩) 1 cap1) 1 (bcells [b2])) := Lib.hid hown
  have HB1 := Lib.hid ((HB0.out.alloc HB0.out.size _).grown hgrow (by simp) (fun j hj => (T0.out.lt j hj).1))
  clear hown hgrow hat hlt hcell
  go_wp2
  rw [rounds_succ]
  obtain ⟨b, off, hao, hcell⟩ := (HV.out.on HB1.out).at' 1 (by simp)
  cases hao
  simp at hcell
  go_wp2_with (at_builtin; refine wpList_append_lies _ rfl _ _ 22 rfl w.heap.size 5 i0 _ 1 1 Tryd.underlying22 hi0 hz0 hz1 hz2 rfl (by omega) _ 1 (bcells [b2]) rfl (T1.out.alloc _) ⟨u1.heap.size, 0, none⟩ 1 1 [.int .u8 (b1.toNat : Int)] rfl rfl (World.news_of_block (cs := #[.int .u8 (b1.toNat : Int)]) (heap_alloc_new u1 _)) (by simp [Value.oneCell']) (by omega) (by unfold maxLen; omega) (by omega) (by have := HB1.out.size; simp; omega) (u1.heap.size + 1) (by simp) ?_)
  intro g2 cap2 u2 hown hgrow hat hlt
  have T2 : Hid (u2.ownsRow w.heap.size 5 1 (.slice (some ⟨g2, 0, none⟩) 2 cap2) 2 (bcells [b2, b1])) := Lib.hid hown
  have HB2 := Lib.hid ((HB1.out.alloc HB1.out.size _).grown hgrow (by have := HB1.out.size; simp; omega) (fun j hj => (T1.out.lt j hj).1))
  clear hown hgrow hat hlt hcell
  go_wp2
  rw [rounds_succ]
  obtain ⟨b, off, hao, hcell⟩ := (HV.out.on HB2.out).at' 0 (by simp)
  cases hao
  simp at hcell
  go_wp2_with (at_builtin; refine wpList_append_lies _ rfl _ _ 22 rfl w.heap.size 5 i0 _ 1 1 Tryd.underlying22 hi0 hz0 hz1 hz2 rfl (by omega) _ 2 (bcells [b2, b1]) rfl (T2.out.alloc _) ⟨u2.heap.size, 0, none⟩ 1 1 [.int .u8 (b0.toNat : Int)] rfl rfl (World.news_of_block (cs := #[.int .u8 (b0.toNat : Int)]) (heap_alloc_new u2 _)) (by simp [Value.oneCell']) (by omega) (by unfold maxLen; omega) (by omega) (by have := HB2.out.size; simp; omega) (u2.heap.size + 1) (by simp) ?_)
  intro g3 cap3 u3 hown hgrow hat hlt
  have T3 : Hid (u3.ownsRow w.heap.size 5 1 (.slice (some ⟨g3, 0, none⟩) 3 cap3) 3 (bcells [b2, b1, b0])) := Lib.hid hown
  have HB3 := Lib.hid ((HB2.out.alloc HB2.out.size _).grown hgrow (by have := HB2.out.size; simp; omega) (fun j hj => (T2.out.lt j hj).1))
  clear hown hgrow hat hlt hcell
  go_wp2
  rw [rounds_succ]
  go_wp2
  go_ret
  exact ⟨_, rfl, T3.out, HB3.out⟩

set_option maxRecDepth 100000 in
set_option maxHeartbeats 2000000 in
theorem turned4 (b0 b1 b2 b3 : UInt8) (v : Value) (w : World) (hv : BytesAt w v [b0, b1, b2, b3]) : Calls Tryd.prog 51 #[v] w (CopyIs w [b3, b2, b1, b0]) := by
  obtain ⟨i0, hi0, hz0, hz1, hz2⟩ := info_parts info5
  have HV := Lib.hid hv
  obtain ⟨ao, cap, rfl, _⟩ := hv
  have T0 := Lib.hid (World.ownsRow_nil w w.heap.size 5 1)
  have HB0 := Lib.hid (Below.refl w.heap.size w)
  have l0 := byte_lt b0
  have l1 := byte_lt b1
  have l2 := byte_lt b2
  have l3 := byte_lt b3
  go_enter Tryd.func51, Tryd.ntmps51
  go_wp2
  refine wp_loop_rounds 5 ?_
  rw [rounds_succ]
  obtain ⟨b, off, hao, hcell⟩ := (HV.out.on HB0.out).at' 3 (by simp)
  cases hao
  simp at hcell
  go_wp2_with (at_builtin; refine wpList_append_lies _ rfl _ _ 22 rfl w.heap.size 5 i0 _ 1 1 Tryd.underlying22 hi0 hz0 hz1 hz2 rfl (by omega) _ 0 (bcells []) rfl (T0.out.alloc _) ⟨w.heap.size, 0, none⟩ 1 1 [.int .u8 (b3.toNat : Int)] rfl rfl (World.news_of_block (cs := #[.int .u8 (b3.toNat : Int)]) (heap_alloc_new w _)) (by simp [Value.oneCell']) (by omega) (by unfold maxLen; omega) (by omega) (by simp) (w.heap.size + 1) (by simp) ?_)
  intro g1 cap1 u1 hown hgrow hat hlt
  have T1 : Hid (u1.ownsRow w.heap.size 5 1 (.slice (some ⟨g1, 0, none⟩) 1 cap1) 1 (bcells [b3])) := Lib.hid hown
  have HB1 := Lib.hid ((HB0.out.alloc HB0.out.size _).grown hgrow (by simp) (fun j hj => (T0.out.lt j hj).1))
  clear hown hgrow hat hlt hcell
  go_wp2
  rw [rounds_succ]
  obtain ⟨b, off, hao, hcell⟩ := (HV.out.on HB1.out).at' 2 (by simp)
  cases hao
  simp at hcell
  go_wp2_with (at_builtin; refine wpList_append_lies _ rfl _ _ 22 rfl w.heap.size 5 i0 _ 1 1 Tryd.underlying22 hi0 hz0 hz1 hz2 rfl (by omega) _ 1 (bcells [b3]) rfl (T1.out.alloc _) ⟨u1.heap.size, 0, none⟩ 1 1 [.int .u8 (b2.toNat : Int)] rfl rfl (World.news_of_block (cs := #[.int .u8 (b2.toNat : Int)]) (heap_alloc_new u1 _)) (by simp [Value.oneCell']) (by omega) (by unfold maxLen; omega) (by omega) (by have := HB1.out.size; simp; omega) (u1.heap.size + 1) (by simp) ?_)
  intro g2 cap2 u2 hown hgrow hat hlt
  have T2 : Hid (u2.ownsRow w.heap.size 5 1 (.slice (some ⟨g2, 0, none⟩) 2 cap2) 2 (bcells [b3, b2])) := Lib.hid hown
  have HB2 := Lib.hid ((HB1.out.alloc HB1.out.size _).grown hgrow (by have := HB1.out.size; simp; omega) (fun j hj => (T1.out.lt j hj).1))
  clear hown hgrow hat hlt hcell
  go_wp2
  rw [rounds_succ]
  obtain ⟨b, off, hao, hcell⟩ := (HV.out.on HB2.out).at' 1 (by simp)
  cases hao
  simp at hcell
  go_wp2_with (at_builtin; refine wpList_append_lies _ rfl _ _ 22 rfl w.heap.size 5 i0 _ 1 1 Tryd.underlying22 hi0 hz0 hz1 hz2 rfl (by omega) _ 2 (bcells [b3, b2]) rfl (T2.out.alloc _) ⟨u2.heap.size, 0, none⟩ 1 1 [.int .u8 (b1.toNat : Int)] rfl rfl (World.news_of_block (cs := #[.int .u8 (b1.toNat : Int)]) (heap_alloc_new u2 _)) (by simp [Value.oneCell']) (by omega) (by unfold maxLen; omega) (by omega) (by have := HB2.out.size; simp; omega) (u2.heap.size + 1) (by simp) ?_)
  intro g3 cap3 u3 hown hgrow hat hlt
  have T3 : Hid (u3.ownsRow w.heap.size 5 1 (.slice (some ⟨g3, 0, none⟩) 3 cap3) 3 (bcells [b3, b2, b1])) := Lib.hid hown
  have HB3 := Lib.hid ((HB2.out.alloc HB2.out.size _).grown hgrow (by have := HB2.out.size; simp; omega) (fun j hj => (T2.out.lt j hj).1))
  clear hown hgrow hat hlt hcell
  go_wp2
  rw [rounds_succ]
  obtain ⟨b, off, hao, hcell⟩ := (HV.out.on HB3.out).at' 0 (by simp)
  cases hao
  simp at hcell
  go_wp2_with (at_builtin; refine wpList_append_lies _ rfl _ _ 22 rfl w.heap.size 5 i0 _ 1 1 Tryd.underlying22 hi0 hz0 hz1 hz2 rfl (by omega) _ 3 (bcells [b3, b2, b1]) rfl (T3.out.alloc _) ⟨u3.heap.size, 0, none⟩ 1 1 [.int .u8 (b0.toNat : Int)] rfl rfl (World.news_of_block (cs := #[.int .u8 (b0.toNat : Int)]) (heap_alloc_new u3 _)) (by simp [Value.oneCell']) (by omega) (by unfold maxLen; omega) (by omega) (by have := HB3.out.size; simp; omega) (u3.heap.size + 1) (by simp) ?_)
  intro g4 cap4 u4 hown hgrow hat hlt
  have T4 : Hid (u4.ownsRow w.heap.size 5 1 (.slice (some ⟨g4, 0, none⟩) 4 cap4) 4 (bcells [b3, b2, b1, b0])) := Lib.hid hown
  have HB4 := Lib.hid ((HB3.out.alloc HB3.out.size _).grown hgrow (by have := HB3.out.size; simp; omega) (fun j hj => (T3.out.lt j hj).1))
  clear hown hgrow hat hlt hcell
  go_wp2
  rw [rounds_succ]
  go_wp2
  go_ret
  exact ⟨_, rfl, T4.out, HB4.out⟩

set_option maxRecDepth 100000 in
set_option maxHeartbeats 2000000 in
theorem turned5 (b0 b1 b2 b3 b4 : UInt8) (v : Value) (w : World) (hv : BytesAt w v [b0, b1, b2, b3, b4]) : Calls Tryd.prog 51 #[v] w (CopyIs w [b4, b3, b2, b1, b0]) := by
  obtain ⟨i0, hi0, hz0, hz1, hz2⟩ := info_parts info5
  have HV := Lib.hid hv
  obtain ⟨ao, cap, rfl, _⟩ := hv
  have T0 := Lib.hid (World.ownsRow_nil w w.heap.size 5 1)
  have HB0 := Lib.hid (Below.refl w.heap.size w)
  have l0 := byte_lt b0
  have l1 := byte_lt b1
  have l2 := byte_lt b2
  have l3 := byte_lt b3
  have l4 := byte_lt b4
  go_enter Tryd.func51, Tryd.ntmps51
  go_wp2
  refine wp_loop_rounds 6 ?_
  rw [rounds_succ]
  obtain ⟨b, off, hao, hcell⟩ := (HV.out.on HB0.out).at' 4 (by simp)
  cases hao
  simp at hcell
  go_wp2_with (at_builtin; refine wpList_append_lies _ rfl _ _ 22 rfl w.heap.size 5 i0 _ 1 1 Tryd.underlying22 hi0 hz0 hz1 hz2 rfl (by omega) _ 0 (bcells []) rfl (T0.out.alloc _) ⟨w.heap.size, 0, none⟩ 1 1 [.int .u8 (b4.toNat : Int)] rfl rfl (World.news_of_block (cs := #[.int .u8 (b4.toNat : Int)]) (heap_alloc_new w _)) (by simp [Value.oneCell']) (by omega) (by unfold maxLen; omega) (by omega) (by simp) (w.heap.size + 1) (by simp) ?_)
  intro g1 cap1 u1 hown hgrow hat hlt
  have T1 : Hid (u1.ownsRow w.heap.size 5 1 (.slice (some ⟨g1, 0, none⟩) 1 cap1) 1 (bcells [b4])) := Lib.hid hown
  have HB1 := Lib.hid ((HB0.out.alloc HB0.out.size _).grown hgrow (by simp) (fun j hj => (T0.out.lt j hj).1))
  clear hown hgrow hat hlt hcell
  go_wp2
  rw [rounds_succ]
  obtain ⟨b, off, hao, hcell⟩ := (HV.out.on HB1.out).at' 3 (by simp)
  cases hao
  simp at hcell
  go_wp2_with (at_builtin; refine wpList_append_lies _ rfl _ _ 22 rfl w.heap.size 5 i0 _ 1 1 Tryd.underlying22 hi0 hz0 hz1 hz2 rfl (by omega) _ 1 (bcells [b4]) rfl (T1.out.alloc _) ⟨u1.heap.size, 0, none⟩ 1 1 [.int .u8 (b3.toNat : Int)] rfl rfl (World.news_of_block (cs := #[.int .u8 (b3.toNat : Int)]) (heap_alloc_new u1 _)) (by simp [Value.oneCell']) (by omega) (by unfold maxLen; omega) (by omega) (by have := HB1.out.size; simp; omega) (u1.heap.size + 1) (by simp) ?_)
  intro g2 cap2 u2 hown hgrow hat hlt
  have T2 : Hid (u2.ownsRow w.heap.size 5 1 (.slice (some ⟨g2, 0, none⟩) 2 cap2) 2 (bcells [b4, b3])) := Lib.hid hown
  have HB2 := Lib.hid ((HB1.out.alloc HB1.out.size _).grown hgrow (by have := HB1.out.size; simp; omega) (fun j hj => (T1.out.lt j hj).1))
  clear hown hgrow hat hlt hcell
  go_wp2
  rw [rounds_succ]
  obtain ⟨b, off, hao, hcell⟩ := (HV.out.on HB2.out).at' 2 (by simp)
  cases hao
  simp at hcell
  go_wp2_with (at_builtin; refine wpList_append_lies _ rfl _ _ 22 rfl w.heap.size 5 i0 _ 1 1 Tryd.underlying22 hi0 hz0 hz1 hz2 rfl (by omega) _ 2 (bcells [b4, b3]) rfl (T2.out.alloc _) ⟨u2.heap.size, 0, none⟩ 1 1 [.int .u8 (b2.toNat : Int)] rfl rfl (World.news_of_block (cs := #[.int .u8 (b2.toNat : Int)]) (heap_alloc_new u2 _)) (by simp [Value.oneCell']) (by omega) (by unfold maxLen; omega) (by omega) (by have := HB2.out.size; simp; omega) (u2.heap.size + 1) (by simp) ?_)
  intro g3 cap3 u3 hown hgrow hat hlt
  have T3 : Hid (u3.ownsRow w.heap.size 5 1 (.slice (some ⟨g3, 0, none⟩) 3 cap3) 3 (bcells [b4, b3, b2])) := Lib.hid hown
  have HB3 := Lib.hid ((HB2.out.alloc HB2.out.size _).grown hgrow (by have := HB2.out.size; simp; omega) (fun j hj => (T2.out.lt j hj).1))
  clear hown hgrow hat hlt hcell
  go_wp2
  rw [rounds_succ]
  obtain ⟨b, off, hao, hcell⟩ := (HV.out.on HB3.out).at' 1 (by simp)
  cases hao
  simp at hcell
  go_wp2_with (at_builtin; refine wpList_append_lies _ rfl _ _ 22 rfl w.heap.size 5 i0 _ 1 1 Tryd.underlying22 hi0 hz0 hz1 hz2 rfl (by omega) _ 3 (bcells [b4, b3, b2]) rfl (T3.out.alloc _) ⟨u3.heap.size, 0, none⟩ 1 1 [.int .u8 (b1.toNat : Int)] rfl rfl (World.news_of_block (cs := #[.int .u8 (b1.toNat : Int)]) (heap_alloc_new u3 _)) (by simp [Value.oneCell']) (by omega) (by unfold maxLen; omega) (by omega) (by have := HB3.out.size; simp; omega) (u3.heap.size + 1) (by simp) ?_)
  intro g4 cap4 u4 hown hgrow hat hlt
  have T4 : Hid (u4.ownsRow w.heap.size 5 1 (.slice (some ⟨g4, 0, none⟩) 4 cap4) 4 (bcells [b4, b3, b2, b1])) := Lib.hid hown
  have HB4 := Lib.hid ((HB3.out.alloc HB3.out.size _).grown hgrow (by have := HB3.out.size; simp; omega) (fun j hj => (T3.out.lt j hj).1))
  clear hown hgrow hat hlt hcell
  go_wp2
  rw [rounds_succ]
  obtain ⟨b, off, hao, hcell⟩ := (HV.out.on HB4.out).at' 0 (by simp)
  cases hao
  simp at hcell
  go_wp2_with (at_builtin; refine wpList_append_lies _ rfl _ _ 22 rfl w.heap.size 5 i0 _ 1 1 Tryd.underlying22 hi0 hz0 hz1 hz2 rfl (by omega) _ 4 (bcells [b4, b3, b2, b1]) rfl (T4.out.alloc _) ⟨u4.heap.size, 0, none⟩ 1 1 [.int .u8 (b0.toNat : Int)] rfl rfl (World.news_of_block (cs := #[.int .u8 (b0.toNat : Int)]) (heap_alloc_new u4 _)) (by simp [Value.oneCell']) (by omega) (by unfold maxLen; omega) (by omega) (by have := HB4.out.size; simp; omega) (u4.heap.size + 1) (by simp) ?_)
  intro g5 cap5 u5 hown hgrow hat hlt
  have T5 : Hid (u5.ownsRow w.heap.size 5 1 (.slice (some ⟨g5, 0, none⟩) 5 cap5) 5 (bcells [b4, b3, b2, b1, b0])) := Lib.hid hown
  have HB5 := Lib.hid ((HB4.out.alloc HB4.out.size _).grown hgrow (by have := HB4.out.size; simp; omega) (fun j hj => (T4.out.lt j hj).1))
  clear hown hgrow hat hlt hcell
  go_wp2
  rw [rounds_succ]
  go_wp2
  go_ret
  exact ⟨_, rfl, T5.out, HB5.out⟩

set_option maxRecDepth 100000 in
set_option maxHeartbeats 2000000 in
theorem turned6 (b0 b1 b2 b3 b4 b5 : UInt8) (v : Value) (w : World) (hv : BytesAt w v [b0, b1, b2, b3, b4, b5]) : Calls Tryd.prog 51 #[v] w (CopyIs w [b5, b4, b3, b2, b1, b0]) := by
  obtain ⟨i0, hi0, hz0, hz1, hz2⟩ := info_parts info5
  have HV := Lib.hid hv
  obtain ⟨ao, cap, rfl, _⟩ := hv
  have T0 := Lib.hid (World.ownsRow_nil w w.heap.size 5 1)
  have HB0 := Lib.hid (Below.refl w.heap.size w)
  have l0 := byte_lt b0
  have l1 := byte_lt b1
  have l2 := byte_lt b2
  have l3 := byte_lt b3
  have l4 := byte_lt b4
  have l5 := byte_lt b5
  go_enter Tryd.func51, Tryd.ntmps51
  go_wp2
  refine wp_loop_rounds 7 ?_
  rw [rounds_succ]
  obtain ⟨b, off, hao, hcell⟩ := (HV.out.on HB0.out).at' 5 (by simp)
  cases hao
  simp at hcell
  go_wp2_with (at_builtin; refine wpList_append_lies _ rfl _ _ 22 rfl w.heap.size 5 i0 _ 1 1 Tryd.underlying22 hi0 hz0 hz1 hz2 rfl (by omega) _ 0 (bcells []) rfl (T0.out.alloc _) ⟨w.heap.size, 0, none⟩ 1 1 [.int .u8 (b5.toNat : Int)] rfl rfl (World.news_of_block (cs := #[.int .u8 (b5.toNat : Int)]) (heap_alloc_new w _)) (by simp [Value.oneCell']) (by omega) (by unfold maxLen; omega) (by omega) (by simp) (w.heap.size + 1) (by simp) ?_)
  intro g1 cap1 u1 hown hgrow hat hlt
  have T1 : Hid (u1.ownsRow w.heap.size 5 1 (.slice (some ⟨g1, 0, none⟩) 1 cap1) 1 (bcells [b5])) := Lib.hid hown
  have HB1 := Lib.hid ((HB0.out.alloc HB0.out.size _).grown hgrow (by simp) (fun j hj => (T0.out.lt j hj).1))
  clear hown hgrow hat hlt hcell
  go_wp2
  rw [rounds_succ]
  obtain ⟨b, off, hao, hcell⟩ := (HV.out.on HB1.out).at' 4 (by simp)
  cases hao
  simp at hcell
  go_wp2_with (at_builtin; refine wpList_append_lies _ rfl _ _ 22 rfl w.heap.size 5 i0 _ 1 1 Tryd.underlying22 hi0 hz0 hz1 hz2 rfl (by omega) _ 1 (bcells [b5]) rfl (T1.out.alloc _) ⟨u1.heap.size, 0, none⟩ 1 1 [.int .u8 (b4.toNat : Int)] rfl rfl (World.news_of_block (cs := #[.int .u8 (b4.toNat : Int)]) (heap_alloc_new u1 _)) (by simp [Value.oneCell']) (by omega) (by unfold maxLen; omega) (by omega) (by have := HB1.out.size; simp; omega) (u1.heap.size + 1) (by simp) ?_)
  intro g2 cap2 u2 hown hgrow hat hlt
  have T2 : Hid (u2.ownsRow w.heap.size 5 1 (.slice (some ⟨g2, 0, none⟩) 2 cap2) 2 (bcells [b5, b4])) := Lib.hid hown
  have HB2 := Lib.hid ((HB1.out.alloc HB1.out.size _).grown hgrow (by have := HB1.out.size; simp; omega) (fun j hj => (T1.out.lt j hj).1))
  clear hown hgrow hat hlt hcell
  go_wp2
  rw [rounds_succ]
  obtain ⟨b, off, hao, hcell⟩ := (HV.out.on HB2.out).at' 3 (by simp)
  cases hao
  simp at hcell
  go_wp2_with (at_builtin; refine wpList_append_lies _ rfl _ _ 22 rfl w.heap.size 5 i0 _ 1 1 Tryd.underlying22 hi0 hz0 hz1 hz2 rfl (by omega) _ 2 (bcells [b5, b4]) rfl (T2.out.alloc _) ⟨u2.heap.size, 0, none⟩ 1 1 [.int .u8 (b3.toNat : Int)] rfl rfl (World.news_of_block (cs := #[.int .u8 (b3.toNat : Int)]) (heap_alloc_new u2 _)) (by simp [Value.oneCell']) (by omega) (by unfold maxLen; omega) (by omega) (by have := HB2.out.size; simp; omega) (u2.heap.size + 1) (by simp) ?_)
  intro g3 cap3 u3 hown hgrow hat hlt
  have T3 : Hid (u3.ownsRow w.heap.size 5 1 (.slice (some ⟨g3, 0, none⟩) 3 cap3) 3 (bcells [b5, b4, b3])) := Lib.hid hown
  have HB3 := Lib.hid ((HB2.out.alloc HB2.out.size _).grown hgrow (by have := HB2.out.size; simp; omega) (fun j hj => (T2.out.lt j hj).1))
  clear hown hgrow hat hlt hcell
  go_wp2
  rw [rounds_succ]
  obtain ⟨b, off, hao, hcell⟩ := (HV.out.on HB3.out).at' 2 (by simp)
  cases hao
  simp at hcell
  go_wp2_with (at_builtin; refine wpList_append_lies _ rfl _ _ 22 rfl w.heap.size 5 i0 _ 1 1 Tryd.underlying22 hi0 hz0 hz1 hz2 rfl (by omega) _ 3 (bcells [b5, b4, b3]) rfl (T3.out.alloc _) ⟨u3.heap.size, 0, none⟩ 1 1 [.int .u8 (b2.toNat : Int)] rfl rfl (World.news_of_block (cs := #[.int .u8 (b2.toNat : Int)]) (heap_alloc_new u3 _)) (by simp [Value.oneCell']) (by omega) (by unfold maxLen; omega) (by omega) (by have := HB3.out.size; simp; omega) (u3.heap.size + 1) (by simp) ?_)
  intro g4 cap4 u4 hown hgrow hat hlt
  have T4 : Hid (u4.ownsRow w.heap.size 5 1 (.slice (some ⟨g4, 0, none⟩) 4 cap4) 4 (bcells [b5, b4, b3, b2])) := Lib.hid hown
  have HB4 := Lib.hid ((HB3.out.alloc HB3.out.size _).grown hgrow (by have := HB3.out.size; simp; omega) (fun j hj => (T3.out.lt j hj).1))
  clear hown hgrow hat hlt hcell
  go_wp2
  rw [rounds_succ]
  obtain ⟨b, off, hao, hcell⟩ := (HV.out.on HB4.out).at' 1 (by simp)
  cases hao
  simp at hcell
  go_wp2_with (at_builtin; refine wpList_append_lies _ rfl _ _ 22 rfl w.heap.size 5 i0 _ 1 1 Tryd.underlying22 hi0 hz0 hz1 hz2 rfl (by omega) _ 4 (bcells [b5, b4, b3, b2]) rfl (T4.out.alloc _) ⟨u4.heap.size, 0, none⟩ 1 1 [.int .u8 (b1.toNat : Int)] rfl rfl (World.news_of_block (cs := #[.int .u8 (b1.toNat : Int)]) (heap_alloc_new u4 _)) (by simp [Value.oneCell']) (by omega) (by unfold maxLen; omega) (by omega) (by have := HB4.out.size; simp; omega) (u4.heap.size + 1) (by simp) ?_)
  intro g5 cap5 u5 hown hgrow hat hlt
  have T5 : Hid (u5.ownsRow w.heap.size 5 1 (.slice (some ⟨g5, 0, none⟩) 5 cap5) 5 (bcells [b5, b4, b3, b2, b1])) := Lib.hid hown
  have HB5 := Lib.hid ((HB4.out.alloc HB4.out.size _).grown hgrow (by have := HB4.out.size; simp; omega) (fun j hj => (T4.out.lt j hj).1))
  clear hown hgrow hat hlt hcell
  go_wp2
  rw [rounds_succ]
  obtain ⟨b, off, hao, hcell⟩ := (HV.out.on HB5.out).at' 0 (by simp)
  cases hao
  simp at hcell
  go_wp2_with (at_builtin; refine wpList_append_lies _ rfl _ _ 22 rfl w.heap.size 5 i0 _ 1 1 Tryd.underlying22 hi0 hz0 hz1 hz2 rfl (by omega) _ 5 (bcells [b5, b4, b3, b2, b1]) rfl (T5.out.alloc _) ⟨u5.heap.size, 0, none⟩ 1 1 [.int .u8 (b0.toNat : Int)] rfl rfl (World.news_of_block (cs := #[.int .u8 (b0.toNat : Int)]) (heap_alloc_new u5 _)) (by simp [Value.oneCell']) (by omega) (by unfold maxLen; omega) (by omega) (by have := HB5.out.size; simp; omega) (u5.heap.size + 1) (by simp) ?_)
  intro g6 cap6 u6 hown hgrow hat hlt
  have T6 : Hid (u6.ownsRow w.heap.size 5 1 (.slice (some ⟨g6, 0, none⟩) 6 cap6) 6 (bcells [b5, b4, b3, b2, b1, b0])) := Lib.hid hown
  have HB6 := Lib.hid ((HB5.out.alloc HB5.out.size _).grown hgrow (by have := HB5.out.size; simp; omega) (fun j hj => (T5.out.lt j hj).1))
  clear hown hgrow hat hlt hcell
  go_wp2
  rw [rounds_succ]
  go_wp2
  go_ret
  exact ⟨_, rfl, T6.out, HB6.out⟩

theorem turned_any (v : Value) (l : List UInt8) (w : World) (h : BytesAt w v l) (h1 : 1 ≤ l.length) (h2 : l.length ≤ 6) : Calls Tryd.prog 51 #[v] w (CopyIs w l.reverse) := by
  match l, h, h1, h2 with
  | [b0], h, _, _ => exact turned1 b0 v w h
  | [b0, b1], h, _, _ => exact turned2 b0 b1 v w h
  | [b0, b1, b2], h, _, _ => exact turned3 b0 b1 b2 v w h
  | [b0, b1, b2, b3], h, _, _ => exact turned4 b0 b1 b2 b3 v w h
  | [b0, b1, b2, b3, b4], h, _, _ => exact turned5 b0 b1 b2 b3 b4 v w h
  | [b0, b1, b2, b3, b4, b5], h, _, _ => exact turned6 b0 b1 b2 b3 b4 b5 v w h
  | _ :: _ :: _ :: _ :: _ :: _ :: _ :: _, _, _, h2 => simp at h2
end Go.Proofs.YtpdngcjgfngnjaaDoor
