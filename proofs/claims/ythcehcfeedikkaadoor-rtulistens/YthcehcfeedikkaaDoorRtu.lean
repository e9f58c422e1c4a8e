/- rtu.fault, bytes.Equal, sumOf, Frame: for every address and every row of bytes. -/
import Derived.Test.YthcehcfeedikkaaDoorCRun
import Derived.Test.YthcehcfeedikkaaDoorSame
import Derived.Test.YthcehcfeedikkaaDoorMem
import Derived.Laws.MakeOwn
import Derived.Laws.OwnMore
namespace Go.Proofs.YthcehcfeedikkaaDoor
open Go.RowKit Go.Extern.Stop Go.Stop Go.Extern

theorem byte_lt (b : UInt8) : b.toNat < 256 := by have := UInt8.toNat_lt b; omega
/-- An error of the package. -/
def sRtu : ByteArray := ⟨#[114, 116, 117]⟩
def RErr (w : World) (x c : Int) (v : Value) : Prop := ∃ b : Nat, v = .iface 76 (.pointer (some ⟨b, 0, none⟩)) ∧ w.heap[b]? = some (.cells #[.string sRtu, .int .i64 x, .iface 29 (.int .i64 c)] 79 (0, 0))
theorem RErr.on {w w' : World} {x c : Int} {v : Value} (h : RErr w x c v) (hb : Below w.heap.size w w') : RErr w' x c v := by
  obtain ⟨b, h1, h2⟩ := h
  exact ⟨b, h1, (hb.block b (lt_heap h2)).trans h2⟩
theorem rfault_any (x c : Int) (w : World) : Calls Tryd.prog 25 #[.int .i64 x, .int .i64 c] w fun e w' => (∃ v, e = .returned v ∧ RErr w' x c v) ∧ Below w.heap.size w w' := by
  go_enter Tryd.func25, Tryd.ntmps25
  go_wp2_with fail
  refine (in_some _ _ _ _ _).mono ?_
  rintro e w1 ⟨rfl, rfl⟩
  go_wp2
  go_ret
  exact ⟨⟨_, rfl, w.heap.size, rfl, heap_alloc_new w _⟩, below_new _ _⟩
theorem RErr.form {w : World} {x c : Int} {v : Value} (h : RErr w x c v) : ∃ b : Nat, v = .iface 76 (.pointer (some ⟨b, 0, none⟩)) := by
  obtain ⟨b, h1, _⟩ := h
  exact ⟨b, h1⟩
/-- bytes.Equal. -/
theorem bequal_any (u v : Value) (l m : List UInt8) (w : World) (hu : BytesAt w u l) (hv : BytesAt w v m) : Calls Tryd.prog 29 #[u, v] w fun e w' => e = .returned (.bool (l == m)) ∧ w = w' := by
  have c1 := conv_bytes w u l hu
  have c2 := conv_bytes w v m hv
  clear hu hv
  go_enter Tryd.func29, Tryd.ntmps29
  go_wp2
  go_ret
  exact ⟨rfl, rfl⟩

/-- A sum's two bytes. -/
def sumB (l : List UInt8) : List UInt8 := [UInt8.ofNat (modN l % 256), UInt8.ofNat (modN l / 256)]
theorem sumB_length (l : List UInt8) : (sumB l).length = 2 := rfl
theorem sum_any (v : Value) (l : List UInt8) (w : World) (hv : BytesAt w v l) (hm : l.length ≤ maxLen) : Calls Tryd.prog 26 #[v] w (CopyIs w (sumB l)) := by
  have HV := Lib.hid hv
  have hml := modN_lt l
  obtain ⟨x, hxe⟩ : ∃ x, x = UInt8.ofNat (modN l % 256) := ⟨_, rfl⟩
  obtain ⟨y, hye⟩ : ∃ y, y = UInt8.ofNat (modN l / 256) := ⟨_, rfl⟩
  have hx : IntKind.u8.wrap ((modN l : Nat) : Int) = (x.toNat : Int) := by rw [hxe, UInt8.toNat_ofNat', IntKind.wrap_u8']; omega
  have hy : IntKind.u8.wrap (((modN l : Nat) : Int) / 256) = (y.toNat : Int) := by rw [hye, UInt8.toNat_ofNat', IntKind.wrap_u8']; omega
  have HE : Hid (sumB l = [x, y]) := Lib.hid (by rw [hxe, hye]; rfl)
  clear hv hxe hye
  go_enter Tryd.func26, Tryd.ntmps26
  go_wp2_with fail
  refine (Modbus_any v l w HV.out hm).mono ?_
  rintro e w1 ⟨rfl, rfl⟩
  go_wp2
  go_ret
  refine ⟨_, rfl, ?_, below_new _ _⟩
  rw [HE.out]
  exact World.ownsRow_lit w #[.int .u8 (x.toNat : Int), .int .u8 (y.toNat : Int)] 2 (Nat.le_refl _) (by unfold maxLen; omega) (by simp)

/-- A frame. -/
def frm (a : UInt8) (l : List UInt8) : List UInt8 := a :: l ++ sumB (a :: l)
theorem frm_length (a : UInt8) (l : List UInt8) : (frm a l).length = l.length + 3 := by simp [frm, sumB_length]
def BytesOk (w : World) (l : List UInt8) (e : Ending) (w' : World) : Prop := ∃ v, e = .returned (.tuple #[v, .nilIface]) ∧ w'.ownsRow w.heap.size 5 1 v l.length (bcells l) ∧ Below w.heap.size w w'
def BytesNo (w : World) (x c : Int) (e : Ending) (w' : World) : Prop := ∃ v, e = .returned (.tuple #[.slice none 0 0, v]) ∧ RErr w' x c v ∧ Below w.heap.size w w'

set_option maxRecDepth 100000 in
set_option maxHeartbeats 2000000 in
theorem frame_ok (a : UInt8) (v : Value) (l : List UInt8) (w : World) (hv : BytesAt w v l) (h0 : 0 < l.length) (h1 : l.length ≤ 253) : Calls Tryd.prog 8 #[.int .i64 (a.toNat : Int), v] w (BytesOk w (frm a l)) := by
  obtain ⟨i0, hi0, hz0, hz1, hz2⟩ := info_parts info5
  obtain ⟨ao, cap, rfl, hc⟩ := hv
  obtain ⟨ab, aoff, rfl, _⟩ := hc 0 h0
  have HN := Lib.hid (bytes_news hc)
  have ha : (a.toNat : Int) < 256 := by have := byte_lt a; omega
  have hw : IntKind.u8.wrap (a.toNat : Int) = (a.toNat : Int) := by rw [IntKind.wrap_u8']; omega
  obtain ⟨n, hn⟩ : ∃ n : Nat, n = l.length + 3 := ⟨_, rfl⟩
  have hn2 : (1 : Int) + (l.length : Int) + 2 = (n : Int) := by omega
  have hn4 : 4 ≤ n := by omega
  have hn5 : n ≤ 256 := by omega
  obtain ⟨w1, hr, ho1, hg1⟩ := run_make_own (P := Tryd.prog) w w.heap.size 22 5 i0 _ 1 Tryd.underlying22 hi0 hz0 hz1 .i64 .i64 n (by rw [hz2]; omega) (by unfold maxLen; omega) (Nat.le_refl _)
  have HO1 := Lib.hid ho1
  have HB1 : Hid (Below w.heap.size w w1) := Lib.hid ((Below.refl _ w).grown hg1 (Nat.le_refl _) (by intro k hk; cases hk))
  have HNE := Lib.hid hn
  clear hc ho1 hg1 hn
  go_enter Tryd.func8, Tryd.ntmps8
  go_wp2_with (at_builtin; refine wpList_append_lies _ rfl _ _ 22 rfl w.heap.size 5 i0 _ 1 1 Tryd.underlying22 hi0 hz0 hz1 hz2 rfl (by omega) _ 0 [] rfl (HO1.out.alloc _) ⟨w1.heap.size, 0, none⟩ 1 1 [.int .u8 (a.toNat : Int)] rfl rfl (World.news_of_block (cs := #[.int .u8 (a.toNat : Int)]) (heap_alloc_new w1 _)) (by simp [Value.oneCell']) (by omega) (by unfold maxLen; omega) (by omega) (by have := HB1.out.size; simp; omega) (w1.heap.size + 1) (by simp) ?_)
  intro g2 c2 w2 ho hg hat hlt
  have HO2 : Hid (w2.ownsRow w.heap.size 5 1 (.slice (some ⟨g2, 0, none⟩) 1 c2) 1 (bcells [a])) := Lib.hid ho
  have HB2 : Hid (Below w.heap.size w w2) := Lib.hid ((HB1.out.alloc HB1.out.size _).grown hg (by have := HB1.out.size; simp; omega) (fun j hj => (HO1.out.lt j hj).1))
  clear ho hg hat hlt
  go_wp2_with (at_builtin; refine wpList_append_lies _ rfl _ _ 22 rfl w.heap.size 5 i0 _ 1 1 Tryd.underlying22 hi0 hz0 hz1 hz2 rfl (by omega) _ 1 (bcells [a]) rfl HO2.out ⟨ab, aoff, none⟩ l.length cap (bcells l) rfl (by rw [bcells_length]; omega) (fun j u hj => by have h := HN.out j u hj; rw [HB2.out.cell (lt_cell h)]; exact h) (bcells_one l) h0 (by unfold maxLen; omega) (by omega) HB2.out.size w2.heap.size rfl ?_)
  intro g3 c3 w3 ho hg hat hlt
  have HE3 : Hid (1 + l.length = (a :: l).length) := Lib.hid (by simp; omega)
  rw [HE3.out] at ho
  rw [HE3.out]
  have HO3 : Hid (w3.ownsRow w.heap.size 5 1 (.slice (some ⟨g3, 0, none⟩) (a :: l).length c3) (a :: l).length (bcells (a :: l))) := Lib.hid (by rw [← bcells_append] at ho; exact ho)
  have HB3 : Hid (Below w.heap.size w w3) := Lib.hid (HB2.out.grown hg HB2.out.size (fun j hj => (HO2.out.lt j hj).1))
  clear ho hg hat hlt
  have HL3 : Hid ((a :: l).length ≤ 254) := Lib.hid (by rw [← HE3.out]; omega)
  have HF : Hid (frm a l = (a :: l) ++ sumB (a :: l)) := Lib.hid rfl
  have HFL : Hid ((frm a l).length = (a :: l).length + 2) := Lib.hid (by rw [frm_length]; simp)
  generalize hal : a :: l = al at *
  clear hal
  go_wp2_with fail
  refine (sum_any _ al w3 (bytesAt_own HO3.out) (by have := HL3.out; unfold maxLen; omega)).mono ?_
  rintro e w4 ⟨v4, rfl, ho4, hb4⟩
  obtain ⟨g4, k4, rfl, _, _⟩ := row_lit ho4 (by rw [sumB_length]; omega)
  have HO4 := Lib.hid ho4
  have HB4 := Lib.hid (HB3.out.trans (hb4.mono HB3.out.size))
  have HO5 : Hid (w4.ownsRow w.heap.size 5 1 (.slice (some ⟨g3, 0, none⟩) al.length c3) al.length (bcells al)) := Lib.hid (ownsRow_off HO3.out (Off.of_below (fun _ => False) hb4) (fun _ _ f => f))
  clear ho4 hb4
  go_wp2_with (at_builtin; refine wpList_append_lies _ rfl _ _ 22 rfl w.heap.size 5 i0 _ 1 1 Tryd.underlying22 hi0 hz0 hz1 hz2 rfl (by omega) _ al.length (bcells al) rfl HO5.out ⟨g4, 0, none⟩ 2 k4 (bcells (sumB al)) rfl (by rw [bcells_length, sumB_length]) (bytesAt_news (bytesAt_own HO4.out)) (bcells_one _) (by omega) (by have := HL3.out; unfold maxLen; omega) (by have := HL3.out; omega) HB4.out.size w4.heap.size rfl ?_)
  intro g5 c5 w5 ho hg hat hlt
  have HR : Hid (BytesOk w (frm a l) (.returned (.tuple #[.slice (some ⟨g5, 0, none⟩) (al.length + 2) c5, .nilIface])) w5) := Lib.hid ⟨_, rfl, by rw [HFL.out, HF.out, bcells_append]; exact ho, HB4.out.grown hg HB4.out.size (fun j hj => (HO5.out.lt j hj).1)⟩
  clear ho hg hat hlt
  go_wp2
  go_ret2
  exact HR.out
end Go.Proofs.YthcehcfeedikkaaDoor
