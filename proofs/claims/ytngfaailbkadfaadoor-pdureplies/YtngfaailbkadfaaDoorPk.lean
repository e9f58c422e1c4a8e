/- pdu.packed: bits as bytes, a row of the call's own, for every row of bits. -/
import Derived.Test.YtngfaailbkadfaaDoorPkP
import Derived.Test.YtngfaailbkadfaaDoorMay
import Derived.StillTailTactics
import Derived.Deep.OwnRows
namespace Go.Proofs.YtngfaailbkadfaaDoor
open Go.RowKit Go.Extern.Stop Go.Stop Go.Extern
set_option maxRecDepth 100000

theorem below_drewN {B : Nat} {a w : World} (h : Below B a w) (n : Nat) : Below B a (w.drewN n) := ⟨h.os, h.tape, h.output, h.size, h.block⟩
theorem made_row (w : World) (n : Nat) (hn : n ≤ maxLen) : (w.alloc (.cells (madeCells #[.int .u8 0] n) 5)).ownsRow w.heap.size 5 1 (.slice (some ⟨w.heap.size, 0, none⟩) n n) n (List.replicate n (.int .u8 0)) := by
  have h := World.ownsRow_lit (w := w) (base := w.heap.size) (e := 5) (size := 1) (madeCells #[.int .u8 0] n) n (Nat.le_refl _) hn (by rw [size_madeCells, Nat.mul_one])
  rw [toList_madeCells_one] at h
  exact h
theorem pcells_zero (l : List Int) : pcells l 0 = List.replicate ((l.length + 7) / 8) (.int .u8 0) := by
  refine List.ext_getElem (by simp [pcells]) fun i h1 h2 => ?_
  simp [pcells, pkAt_nil]

theorem pow_lt8 (q : Nat) (hq : q < 8) : 2 ^ q ≤ 128 := Nat.pow_le_pow_right (n := 2) (by omega) (show q ≤ 7 by omega)
theorem or_bit0 (P q : Nat) (hq : q < 8) (h : P < 2 ^ q) : bits .or .u8 (P : Int) (IntKind.u8.wrap (IntKind.i64.wrap 0)) = ((P + 2 ^ q * Int.toNat 0 : Nat) : Int) := by
  have h1 := pow_lt8 q hq
  have h2 := u8_or_nat P 0 (by omega) (by omega)
  rw [Nat.or_zero] at h2
  exact h2
theorem or_bit1 (P q : Nat) (hq : q < 8) (h : P < 2 ^ q) : bits .or .u8 (P : Int) (IntKind.u8.wrap (IntKind.i64.wrap (2 ^ q))) = ((P + 2 ^ q * Int.toNat 1 : Nat) : Int) := by
  have h1 := pow_lt8 q hq
  have e : IntKind.u8.wrap (IntKind.i64.wrap (2 ^ q)) = ((2 ^ q : Nat) : Int) := by
    rw [show (2 : Int) ^ q = ((2 ^ q : Nat) : Int) by simp]
    generalize 2 ^ q = z at h1 ⊢
    rw [IntKind.wrap_u8', IntKind.wrap_i64]
    omega
  have h2 := u8_or_nat P (2 ^ q) (by omega) (by omega)
  have h3 := Nat.two_pow_add_eq_or_of_lt h 1
  rw [Nat.mul_one] at h3
  rw [e, h2, Nat.or_comm, ← h3]
  show _ = ((P + 2 ^ q * 1 : Nat) : Int)
  rw [Nat.mul_one, Nat.add_comm]

set_option maxRecDepth 100000 in
set_option maxHeartbeats 4000000 in
theorem packed_any (v : Value) (l : List Int) (w : World) (hv : IntsAt w v l) (hb : Bits l) (hl : l.length ≤ 100000) : Calls Tryd.prog 69 #[v] w (CopyIs w (packB l)) := by
  have HV := Lib.hid hv
  have HB := Lib.hid hb
  have HL := Lib.hid hl
  obtain ⟨ao, cap, rfl, _⟩ := hv
  obtain ⟨N, hN⟩ : ∃ N, N = (l.length + 7) / 8 := ⟨_, rfl⟩
  have HN := Lib.hid hN
  have eN : ((l.length : Int) + 7) / 8 = (N : Int) := by omega
  have hN1 : N ≤ 100000 := by omega
  obtain ⟨O, hO⟩ : ∃ O, O = Obj.cells (madeCells #[.int .u8 0] N) 5 (0, 0) := ⟨_, rfl⟩
  have hmk : ∀ w : World, (Instr.makeSlice 25 (.int .i64 (N : Int)) (.int .i64 (N : Int))).run Tryd.prog w = .ok (.slice (some ⟨w.heap.size, 0, none⟩) N N) (w.alloc O) := fun w => by
    rw [hO]
    exact run_make_row' (P := Tryd.prog) 25 5 (.int .u8 0) 1 Tryd.underlying25 info5 rfl .i64 .i64 N (by omega) (by omega) w
  have HI : Hid ((w.alloc O).ownsRow w.heap.size 5 1 (.slice (some ⟨w.heap.size, 0, none⟩) N N) N (pcells l 0) ∧ Below w.heap.size w (w.alloc O)) := Lib.hid ⟨by rw [hO, pcells_zero, ← hN]; exact made_row w N (by unfold maxLen; omega), (Below.refl _ w).alloc (Nat.le_refl _) _⟩
  clear hO hb hN
  have hl1 : (l.length : Int) ≤ 100000 := by omega
  have hl0 : (0 : Int) ≤ (l.length : Int) := by omega
  clear hl
  go_enter Tryd.func69, Tryd.ntmps69
  go_wp2
  rw [eN]
  clear eN
  go_loopg [13] l.length (fun k s13 wr => ∃ i : Nat, i ≤ l.length ∧ k = l.length - i ∧ s13 = .int .i64 i ∧ Hid (wr.ownsRow w.heap.size 5 1 (.slice (some ⟨w.heap.size, 0, none⟩) N N) N (pcells l i) ∧ Below w.heap.size w wr))
  case atStart => exact ⟨0, Nat.zero_le _, rfl, rfl, HI⟩
  case round =>
    obtain ⟨i, hi, rfl, rfl, hinv⟩ := hrel
    by_cases hlt : i < l.length
    · obtain ⟨ao', cap', he, hc⟩ := HV.out.on hinv.out.2
      obtain ⟨b, off, hb, hcell⟩ := hc i hlt
      simp only [Value.slice.injEq] at he
      obtain ⟨rfl, _, rfl⟩ := he
      subst hb
      clear hc
      have hj : i / 8 < N := by have := HN.out; omega
      have kd := hinv.out.1.cellAt (i / 8) (by omega)
      rw [pcells_get _ _ _ (by have := HN.out; omega)] at kd
      have kf := hinv.out.1.frozenAt (i / 8)
      have hlow := pkAt_low HB.out i hlt
      have hbit := HB.out l[i] (List.getElem_mem hlt)
      have HS : ∀ q (z : Int), z = ((pkAt (l.take i) (i / 8) + 2 ^ (i % 8) * (l[i]).toNat : Nat) : Int) → Hid (((wr.drewN q).setCell ⟨w.heap.size, i / 8, none⟩ (.int .u8 z)).ownsRow w.heap.size 5 1 (.slice (some ⟨w.heap.size, 0, none⟩) N N) N (pcells l (i + 1)) ∧ Below w.heap.size w ((wr.drewN q).setCell ⟨w.heap.size, i / 8, none⟩ (.int .u8 z))) := fun q z hz => Lib.hid ⟨by
        rw [← pcells_step l i hlt, hz]
        exact (hinv.out.1.stored (i / 8) _).1, (below_drewN hinv.out.2 q).setCell (Nat.le_refl _) _⟩
      clear hinv
      generalize l[i] = y at *
      generalize pkAt (l.take i) (i / 8) = P at *
      obtain ⟨q, hq⟩ : ∃ q : Nat, q = i % 8 := ⟨_, rfl⟩
      obtain ⟨j, hj2⟩ : ∃ j : Nat, j = i / 8 := ⟨_, rfl⟩
      rw [← hq] at HS hlow
      rw [← hj2] at HS kd kf hj
      have eq1 : (i : Int) % 8 = (q : Int) := by omega
      have ej1 : (i : Int) / 8 = (j : Int) := by omega
      have hi0 : (0 : Int) ≤ (i : Int) := by omega
      have hil : (i : Int) < (l.length : Int) := by omega
      have hi5 : (i : Int) ≤ 100000 := by omega
      have hj3 : (j : Int) < (N : Int) := by omega
      have hq8 : q < 8 := by omega
      have hwj : IntKind.i64.wrap (j : Int) = (j : Int) := IntWalk.i64_in _ (by omega)
      have hwq : IntKind.i64.wrap (q : Int) = (q : Int) := IntWalk.i64_in _ (by omega)
      have hj0 : (0 : Int) ≤ (j : Int) := by omega
      have hq0 : (0 : Int) ≤ (q : Int) := by omega
      have htq : (i : Int).tmod 8 = (q : Int) := by rw [Int.tmod_eq_emod_of_nonneg hi0]; exact eq1
      clear hq hj2
      rcases hbit with rfl | rfl
      · go_wp2
        go_still_tail 11, (by kernel_rfl)
        generalize hz : bits BinOp.or IntKind.u8 _ _ = z
        have HS1 := HS 1 z (by rw [← hz]; exact or_bit0 P q hq8 hlow)
        clear HS hz
        go_wp2
        go_roundg (l.length - (i + 1))
        case measure => omega
        case rel => exact ⟨i + 1, by omega, rfl, by go_num, HS1⟩
      · go_wp2
        go_still_tail 11, (by kernel_rfl)
        generalize hz : bits BinOp.or IntKind.u8 _ _ = z
        have HS1 := HS 1 z (by rw [← hz]; exact or_bit1 P q hq8 hlow)
        clear HS hz
        go_wp2
        go_roundg (l.length - (i + 1))
        case measure => omega
        case rel => exact ⟨i + 1, by omega, rfl, by go_num, HS1⟩
    · have he : i = l.length := by omega
      subst he
      have HE : Hid (CopyIs w (packB l) (.returned (.slice (some ⟨w.heap.size, 0, none⟩) N N)) wr) := Lib.hid ⟨_, rfl, by rw [packB_length, ← HN.out, ← pcells_done HB.out]; exact hinv.out.1, hinv.out.2⟩
      clear hinv
      go_wp2
      go_ret
      exact HE.out
end Go.Proofs.YtngfaailbkadfaaDoor
