/- yardref7.Frame where it makes one; yardref7.Open: the document's answers; memory that was there stands. -/
import Derived.Test.YthcehcfeedikkaaDoorRf
namespace Go.Proofs.YthcehcfeedikkaaDoor
open Go.RowKit Go.Extern.Stop Go.Stop Go.Extern

theorem le_sum (l : List UInt8) : leBytes 2 ((modN l : Nat) : Int) = sumB l := by
  have h := modN_lt l
  rw [le_list2]
  unfold byteOf sumB
  rw [show (((modN l : Nat) : Int) % 256).toNat = modN l % 256 by omega, show (((modN l : Nat) : Int) / 256 % 256).toNat = modN l / 256 by omega]

set_option maxRecDepth 100000 in
set_option maxHeartbeats 2000000 in
theorem rframe_ok (a : UInt8) (v : Value) (l : List UInt8) (w : World) (hv : BytesAt w v l) (h0 : 0 < l.length) (h1 : l.length ≤ 253) : Calls Tryd.prog 9 #[.int .i64 (a.toNat : Int), v] w (RfOk w (frm a l)) := by
  obtain ⟨i0, hi0, hz0, hz1, hz2⟩ := info_parts info5
  obtain ⟨ao, cap, rfl, hc⟩ := hv
  obtain ⟨ab, aoff, rfl, _⟩ := hc 0 h0
  have HN := Lib.hid (bytes_news hc)
  have ha : (a.toNat : Int) < 256 := by have := byte_lt a; omega
  have hw : IntKind.u8.wrap (a.toNat : Int) = (a.toNat : Int) := by rw [IntKind.wrap_u8']; omega
  have hl0 : ((l.length : Int) == 0) = false := beq_eq_false_iff_ne.2 (by omega)
  have hl1 : ¬ (253 : Int) < (l.length : Int) := by omega
  have ho1 : ((w.alloc (.cells #[.int .i64 0, .slice none 0 0] 32)).alloc (.cells #[.int .u8 (a.toNat : Int)] 5)).ownsRow w.heap.size 5 1 (.slice (some ⟨w.heap.size + 1, 0, none⟩) 1 1) 1 (bcells [a]) := by
    have := World.ownsRow_lit (base := w.heap.size) (e := 5) (size := 1) (w := w.alloc (.cells #[.int .i64 0, .slice none 0 0] 32)) #[.int .u8 (a.toNat : Int)] 1 (by simp) (by unfold maxLen; omega) (by simp)
    simpa [bcells] using this
  have HO1 := Lib.hid ho1
  have X0 : Below w.heap.size w (w.alloc (.cells #[.int .i64 0, .slice none 0 0] 32)) := below_new w _
  have B0 : BoxE (w.alloc (.cells #[.int .i64 0, .slice none 0 0] 32)) w.heap.size 0 (.slice none 0 0) := heap_alloc_new w _
  have B1 : Hid (BoxE ((w.alloc (.cells #[.int .i64 0, .slice none 0 0] 32)).alloc (.cells #[.int .u8 (a.toNat : Int)] 5)) w.heap.size 0 (.slice none 0 0)) := Lib.hid (B0.on (below_new _ _))
  have HB1 : Hid (Below w.heap.size w ((w.alloc (.cells #[.int .i64 0, .slice none 0 0] 32)).alloc (.cells #[.int .u8 (a.toNat : Int)] 5))) := Lib.hid (X0.trans ((below_new _ _).mono X0.size))
  have HN1 : Hid (∀ j u, (bcells l)[j]? = some u → ((w.alloc (.cells #[.int .i64 0, .slice none 0 0] 32)).alloc (.cells #[.int .u8 (a.toNat : Int)] 5)).cell? ((⟨ab, aoff, none⟩ : Addr).add j) = some u) := Lib.hid (fun j u hj => by have h := HN.out j u hj; rw [HB1.out.cell (lt_cell h)]; exact h)
  clear hc ho1 X0 B0
  go_enter Tryd.func9, Tryd.ntmps9
  go_wp2_with (at_builtin; refine wpList_append_lies _ rfl _ _ 22 rfl w.heap.size 5 i0 _ 1 1 Tryd.underlying22 hi0 hz0 hz1 hz2 rfl (by omega) _ 1 (bcells [a]) rfl HO1.out ⟨ab, aoff, none⟩ l.length cap (bcells l) rfl (by rw [bcells_length]; omega) HN1.out (bcells_one l) h0 (by unfold maxLen; omega) (by omega) HB1.out.size _ rfl ?_)
  generalize (w.alloc (.cells #[.int .i64 0, .slice none 0 0] 32)).alloc (.cells #[.int .u8 (a.toNat : Int)] 5) = w1 at *
  intro g3 c3 w3 ho hg hat hlt
  have HE3 : Hid (1 + l.length = (a :: l).length) := Lib.hid (by simp; omega)
  rw [HE3.out] at ho
  rw [HE3.out]
  have HO3 : Hid (w3.ownsRow w.heap.size 5 1 (.slice (some ⟨g3, 0, none⟩) (a :: l).length c3) (a :: l).length (bcells (a :: l))) := Lib.hid (by rw [← bcells_append] at ho; exact ho)
  have HB3 : Hid (Below w.heap.size w w3) := Lib.hid (HB1.out.grown hg HB1.out.size (fun j hj => (HO1.out.lt j hj).1))
  have B3 : Hid (BoxE w3 w.heap.size 0 (.slice none 0 0)) := Lib.hid ((hg.block _ (lt_heap B1.out) (fun e => row_no HO1.out B1.out (by decide) e.symm)).trans B1.out)
  clear ho hg hat hlt
  have HL3 : Hid ((a :: l).length ≤ 254) := Lib.hid (by rw [← HE3.out]; omega)
  have HF : Hid (frm a l = (a :: l) ++ sumB (a :: l)) := Lib.hid rfl
  have HFL : Hid ((frm a l).length = (a :: l).length + 2) := Lib.hid (by rw [frm_length]; simp)
  generalize hal : a :: l = al at *
  clear hal
  go_wp2_with fail
  refine (refModbus_any _ al w3 (bytesAt_own HO3.out) (by have := HL3.out; unfold maxLen; omega)).mono ?_
  rintro e w4 ⟨rfl, rfl⟩
  go_wp2_with fail
  refine (le2 _ w3).mono ?_
  rintro e w4 ⟨v4, rfl, ho4, hb4⟩
  rw [le_sum] at ho4
  obtain ⟨g4, k4, rfl, _, _⟩ := row_lit ho4 (by rw [sumB_length]; omega)
  have HO4 := Lib.hid ho4
  have HB4 := Lib.hid (HB3.out.trans (hb4.mono HB3.out.size))
  have HO5 : Hid (w4.ownsRow w.heap.size 5 1 (.slice (some ⟨g3, 0, none⟩) al.length c3) al.length (bcells al)) := Lib.hid (ownsRow_off HO3.out (Off.of_below (fun _ => False) hb4) (fun _ _ f => f))
  have B4 := Lib.hid (B3.out.on hb4)
  clear ho4 hb4
  go_wp2_with (at_builtin; refine wpList_append_lies _ rfl _ _ 22 rfl w.heap.size 5 i0 _ 1 1 Tryd.underlying22 hi0 hz0 hz1 hz2 rfl (by omega) _ al.length (bcells al) rfl HO5.out ⟨g4, 0, none⟩ 2 k4 (bcells (sumB al)) rfl (by rw [bcells_length, sumB_length]) (bytesAt_news (bytesAt_own HO4.out)) (bcells_one _) (by omega) (by have := HL3.out; unfold maxLen; omega) (by have := HL3.out; omega) HB4.out.size w4.heap.size rfl ?_)
  intro g5 c5 w5 ho hg hat hlt
  have B5 := Lib.hid (show BoxE w5 w.heap.size 0 (.slice none 0 0) from (hg.block _ (lt_heap B4.out) (fun e => row_no HO5.out B4.out (by decide) e.symm)).trans B4.out)
  have ho5 : w5.ownsRow w.heap.size 5 1 (.slice (some ⟨g5, 0, none⟩) (al.length + 2) c5) (frm a l).length (bcells (frm a l)) := by rw [HFL.out, HF.out, bcells_append]; exact ho
  have HF2 : Hid (BoxE (fin2 w5 w.heap.size 0 (.slice none 0 0)) w.heap.size 0 (.slice none 0 0) ∧ RfOk w (frm a l) (.returned (.tuple #[.slice (some ⟨g5, 0, none⟩) (al.length + 2) c5, e0])) (fin2 w5 w.heap.size 0 (.slice none 0 0))) := Lib.hid ⟨fin2_box B5.out _ _, _, rfl, ownsRow_off ho5 (fin2_off _ _ _ _) (fun k e s => row_no ho5 B5.out (by decide) (by rw [e, s])), fin2_below (HB4.out.grown hg HB4.out.size (fun j hj => (HO5.out.lt j hj).1)) _ (Nat.le_refl _) _ _⟩
  clear ho hg hat hlt ho5
  obtain ⟨c0, c1, f0, f1⟩ := B5.out.cells
  unfold fin2 at HF2
  go_wp2
  generalize (World.setCell (World.setCell w5 _ _) _ _) = W at HF2 ⊢
  obtain ⟨d0, d1, _, _⟩ := HF2.out.1.cells
  refine bodyPost_ret (v := .tuple #[.slice (some ⟨g5, 0, none⟩) (al.length + 2) c5, e0]) ?_ rfl HF2.out.2
  simp [results, Tryd.results9, go_sem, d0, d1, e0]
end Go.Proofs.YthcehcfeedikkaaDoor
