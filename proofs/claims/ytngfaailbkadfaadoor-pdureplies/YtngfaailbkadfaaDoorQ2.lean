/- yardref7's two, regs, bits, data: rows of bytes of their own; memory that was there stands. -/
import Derived.Test.YtngfaailbkadfaaDoorSpec
import Derived.Test.YtngfaailbkadfaaDoorPk
import Derived.StillTailTactics
namespace Go.Proofs.YtngfaailbkadfaaDoor
open Go.RowKit Go.Extern.Stop Go.Stop Go.Extern

theorem qbe_two (x : Int) : be 2 x = [UInt8.ofNat (x / 256 % 256).toNat, UInt8.ofNat (x % 256).toNat] := rfl
theorem be2_cells (x : Int) : bcells (be 2 x) = [.int .u8 (x / 256 % 256), .int .u8 (x % 256)] := by
  rw [qbe_two]
  simp only [bcells, List.map, cell_byte]
theorem two_any (x : Int) (w : World) : Calls Tryd.prog 53 #[.int .i64 x] w (CopyIs w (be 2 x)) := by
  go_enter Tryd.func53, Tryd.ntmps53
  go_wp2
  go_ret
  refine ⟨_, rfl, ?_, (Below.refl _ _).alloc (Nat.le_refl _) _⟩
  rw [be2_cells, be_length]
  exact World.ownsRow_lit w #[.int .u8 (x / 256 % 256), .int .u8 (x % 256)] 2 (Nat.le_refl _) (by unfold maxLen; omega) (by simp)

set_option maxRecDepth 100000 in
set_option maxHeartbeats 4000000 in
theorem regs_any (v : Value) (l : List Int) (w : World) (hv : IntsAt w v l) (hl : l.length ≤ 100000) : Calls Tryd.prog 71 #[v] w (CopyIs w (wordsB l)) := by
  obtain ⟨i0, hi0, hz0, hz1, hz2⟩ := info_parts info5
  have HV := Lib.hid hv
  have HL := Lib.hid hl
  obtain ⟨ao, cap, rfl, _⟩ := hv
  clear hl
  go_enter Tryd.func71, Tryd.ntmps71
  go_wp2
  go_loopg [3, 4] l.length (fun k s3 s4 wr => ∃ i : Nat, i ≤ l.length ∧ k = l.length - i ∧ s4 = .int .i64 i ∧ Hid (wr.ownsRow w.heap.size 5 1 s3 (wordsB (l.take i)).length (bcells (wordsB (l.take i))) ∧ Below w.heap.size w wr))
  case atStart => exact ⟨0, Nat.zero_le _, rfl, rfl, Lib.hid ⟨World.ownsRow_nil _ _ _ _, Below.refl _ _⟩⟩
  case round =>
    obtain ⟨i, hi, rfl, rfl, HI⟩ := hrel
    obtain ⟨wo, hwo⟩ : ∃ x, x = wr := ⟨_, rfl⟩
    subst hwo
    have R := HI.out.1
    obtain ⟨a3, c3, rfl⟩ := row_form R
    clear R
    by_cases hlt : i < l.length
    · obtain ⟨ao', cap', he, hc⟩ := HV.out.on HI.out.2
      obtain ⟨b, off, hb, hcell⟩ := hc i hlt
      simp only [Value.slice.injEq] at he
      obtain ⟨rfl, _, rfl⟩ := he
      subst hb
      clear hc
      have hin0 : (0 : Int) ≤ (i : Int) := by omega
      have hil : (i : Int) < (l.length : Int) := by omega
      have HT := Lib.hid (wordsB_take l i hlt)
      have HW : Hid ((wordsB (l.take i)).length ≤ 200000) := Lib.hid (by rw [wordsB_length, List.length_take]; have := HL.out; omega)
      generalize l[i] = y at *
      generalize wordsB (l.take i) = m at *
      go_wp2_with fail
      refine (two_any y wo).mono ?_
      rintro e w4 ⟨v4, rfl, ho, hb4⟩
      rw [be_length] at ho
      obtain ⟨g4, k4, rfl, _, _⟩ := row_lit ho (by omega)
      have O4 := Lib.hid ho
      have R4 := Lib.hid (ownsRow_off HI.out.1 (Off.of_below (fun _ => False) hb4) (fun _ _ f => f))
      have X4 := Lib.hid (HI.out.2.trans (hb4.mono HI.out.2.size))
      clear ho hb4
      go_wp2_with (at_builtin; refine wpList_append_lies _ rfl _ _ 25 rfl w.heap.size 5 i0 _ 1 1 Tryd.underlying25 hi0 hz0 hz1 hz2 rfl (by omega) _ m.length (bcells m) rfl R4.out ⟨g4, 0, none⟩ 2 k4 (bcells (be 2 y)) rfl (by rw [bcells_length, be_length]) (bytesAt_news (bytesAt_own (by rw [be_length]; exact O4.out))) (bcells_one _) (by omega) (by have := HW.out; unfold maxLen; omega) (by have := HW.out; omega) X4.out.size w4.heap.size rfl ?_)
      intro g5 c5 w5 ho hg hat hlt5
      have HR : Hid (w5.ownsRow w.heap.size 5 1 (.slice (some ⟨g5, 0, none⟩) (m.length + 2) c5) (wordsB (l.take (i + 1))).length (bcells (wordsB (l.take (i + 1)))) ∧ Below w.heap.size w w5) := Lib.hid ⟨by
        rw [HT.out, List.length_append, be_length, bcells_append]
        exact ho, X4.out.grown hg X4.out.size (fun j hj => (R4.out.lt j hj).1)⟩
      clear ho hg hat hlt5
      go_wp2
      go_roundg (l.length - (i + 1))
      case measure => omega
      case rel => exact ⟨i + 1, by omega, rfl, next_int i (by have := HL.out; omega), HR⟩
    · have HE : Hid (wordsB (l.take i) = wordsB l) := Lib.hid (by rw [List.take_of_length_le (by omega)])
      have HR : Hid (CopyIs w (wordsB l) (.returned (.slice a3 (wordsB (l.take i)).length c3)) wo) := Lib.hid ⟨_, rfl, by rw [← HE.out]; exact HI.out.1, HI.out.2⟩
      clear HI
      go_wp2
      go_ret
      exact HR.out
end Go.Proofs.YtngfaailbkadfaaDoor
