/- yardref7's bits, data: rows of bytes of their own; memory that was there stands. -/
import Derived.Test.YtngfaailbkadfaaDoorQ2
namespace Go.Proofs.YtngfaailbkadfaaDoor
open Go.RowKit Go.Extern.Stop Go.Stop Go.Extern

theorem min_q (q : Nat) (hq : q < 8) : min (IntKind.u64.wrap (q : Int)).toNat 8 = q := by rw [IntKind.wrap_u64]; omega
theorem or_q0 (P q : Nat) (hq : q < 8) (h : P < 2 ^ q) : bits .or .u8 (P : Int) (IntKind.u8.wrap (IntKind.u8.wrap 0 * 2 ^ min (IntKind.u64.wrap (q : Int)).toNat 8)) = ((P + 2 ^ q * Int.toNat 0 : Nat) : Int) := by
  have h1 := pow_lt8 q hq
  have h2 := u8_or_nat P 0 (by omega) (by omega)
  rw [Nat.or_zero] at h2
  have e : IntKind.u8.wrap (IntKind.u8.wrap 0 * 2 ^ min (IntKind.u64.wrap (q : Int)).toNat 8) = ((0 : Nat) : Int) := by
    rw [show IntKind.u8.wrap 0 = 0 by decide, Int.zero_mul]
    decide
  rw [e, h2]
  rfl
theorem or_q1 (P q : Nat) (hq : q < 8) (h : P < 2 ^ q) : bits .or .u8 (P : Int) (IntKind.u8.wrap (IntKind.u8.wrap 1 * 2 ^ min (IntKind.u64.wrap (q : Int)).toNat 8)) = ((P + 2 ^ q * Int.toNat 1 : Nat) : Int) := by
  have h1 := pow_lt8 q hq
  have e : IntKind.u8.wrap (IntKind.u8.wrap 1 * 2 ^ min (IntKind.u64.wrap (q : Int)).toNat 8) = ((2 ^ q : Nat) : Int) := by
    rw [min_q q hq, show IntKind.u8.wrap 1 = 1 by decide, Int.one_mul, show (2 : Int) ^ q = ((2 ^ q : Nat) : Int) by simp]
    generalize 2 ^ q = z at h1 ⊢
    rw [IntKind.wrap_u8']
    omega
  have h2 := u8_or_nat P (2 ^ q) (by omega) (by omega)
  have h3 := Nat.two_pow_add_eq_or_of_lt h 1
  rw [Nat.mul_one] at h3
  rw [e, h2, Nat.or_comm, ← h3]
  show _ = ((P + 2 ^ q * 1 : Nat) : Int)
  rw [Nat.mul_one, Nat.add_comm]

set_option maxRecDepth 100000 in
set_option maxHeartbeats 4000000 in
theorem bits_any (v : Value) (l : List Int) (w : World) (hv : IntsAt w v l) (hb : Bits l) (hl : l.length ≤ 100000) : Calls Tryd.prog 72 #[v] w (CopyIs w (packB l)) := by
  have HV := Lib.hid hv
  have HB := Lib.hid hb
  have HL := Lib.hid hl
  obtain ⟨ao, cap, rfl, _⟩ := hv
  obtain ⟨N, hN⟩ : ∃ N, N = (l.length + 7) / 8 := ⟨_, rfl⟩
  have HN := Lib.hid hN
  have eN : ((l.length : Int) + 7) / 8 = (N : Int) := by omega
  have hN1 : N ≤ 100000 := by omega
  obtain ⟨O, hO⟩ : ∃ O, O = Obj.cells (madeCells #[.int .u8 0] N) 5 (0, 0) := ⟨_, rfl⟩
  have hmk : ∀ w : World, (Instr.makeSlice 25 (.int .i64 (N : Int)) (.int .i64 (N : Int))).run Tryd.prog w = .ok (.slice (some ⟨w.heap.size, 0, none⟩) N N) (w.alloc O) := fun w => by
    rw [hO]
    exact run_make_row' (P := Tryd.prog) 25 5 (.int .u8 0) 1 Tryd.underlying25 info5 rfl .i64 .i64 N (by omega) (by omega) w
  have HI : Hid ((w.alloc O).ownsRow w.heap.size 5 1 (.slice (some ⟨w.heap.size, 0, none⟩) N N) N (pcells l 0) ∧ Below w.heap.size w (w.alloc O)) := Lib.hid ⟨by rw [hO, pcells_zero, ← hN]; exact made_row w N (by unfold maxLen; omega), (Below.refl _ w).alloc (Nat.le_refl _) _⟩
  clear hO hb hN
  have hl1 : (l.length : Int) ≤ 100000 := by omega
  have hl0 : (0 : Int) ≤ (l.length : Int) := by omega
  clear hl
  go_enter Tryd.func72, Tryd.ntmps72
  go_wp2
  rw [eN]
  clear eN
  go_loopg [4] l.length (fun k s4 wr => ∃ i : Nat, i ≤ l.length ∧ k = l.length - i ∧ s4 = .int .i64 i ∧ Hid (wr.ownsRow w.heap.size 5 1 (.slice (some ⟨w.heap.size, 0, none⟩) N N) N (pcells l i) ∧ Below w.heap.size w wr))
  case atStart => exact ⟨0, Nat.zero_le _, rfl, rfl, HI⟩
  case round =>
    obtain ⟨i, hi, rfl, rfl, hinv⟩ := hrel
    by_cases hlt : i < l.length
    · obtain ⟨ao', cap', he, hc⟩ := HV.out.on hinv.out.2
      obtain ⟨b, off, hb, hcell⟩ := hc i hlt
      simp only [Value.slice.injEq] at he
      obtain ⟨rfl, _, rfl⟩ := he
      subst hb
      clear hc
      have hj : i / 8 < N := by have := HN.out; omega
      have kd := hinv.out.1.cellAt (i / 8) (by omega)
      rw [pcells_get _ _ _ (by have := HN.out; omega)] at kd
      have kf := hinv.out.1.frozenAt (i / 8)
      have hlow := pkAt_low HB.out i hlt
      have hbit := HB.out l[i] (List.getElem_mem hlt)
      have HS : ∀ q (z : Int), z = ((pkAt (l.take i) (i / 8) + 2 ^ (i % 8) * (l[i]).toNat : Nat) : Int) → Hid (((wr.drewN q).setCell ⟨w.heap.size, i / 8, none⟩ (.int .u8 z)).ownsRow w.heap.size 5 1 (.slice (some ⟨w.heap.size, 0, none⟩) N N) N (pcells l (i + 1)) ∧ Below w.heap.size w ((wr.drewN q).setCell ⟨w.heap.size, i / 8, none⟩ (.int .u8 z))) := fun q z hz => Lib.hid ⟨by
        rw [← pcells_step l i hlt, hz]
        exact (hinv.out.1.stored (i / 8) _).1, (below_drewN hinv.out.2 q).setCell (Nat.le_refl _) _⟩
      clear hinv
      generalize l[i] = y at *
      generalize pkAt (l.take i) (i / 8) = P at *
      obtain ⟨q, hq⟩ : ∃ q : Nat, q = i % 8 := ⟨_, rfl⟩
      obtain ⟨j, hj2⟩ : ∃ j : Nat, j = i / 8 := ⟨_, rfl⟩
      rw [← hq] at HS hlow
      rw [← hj2] at HS kd kf hj
      have eq1 : (i : Int) % 8 = (q : Int) := by omega
      have ej1 : (i : Int) / 8 = (j : Int) := by omega
      have hi0 : (0 : Int) ≤ (i : Int) := by omega
      have hil : (i : Int) < (l.length : Int) := by omega
      have hi5 : (i : Int) ≤ 100000 := by omega
      have hj3 : (j : Int) < (N : Int) := by omega
      have hq8 : q < 8 := by omega
      have hwj : IntKind.i64.wrap (j : Int) = (j : Int) := IntWalk.i64_in _ (by omega)
      have hwq : IntKind.i64.wrap (q : Int) = (q : Int) := IntWalk.i64_in _ (by omega)
      have hj0 : (0 : Int) ≤ (j : Int) := by omega
      have hq0 : (0 : Int) ≤ (q : Int) := by omega
      have htq : (i : Int).tmod 8 = (q : Int) := by rw [Int.tmod_eq_emod_of_nonneg hi0]; exact eq1
      clear hq hj2
      rcases hbit with rfl | rfl
      · have hand : bits .and .i64 0 1 = 0 := by decide
        go_wp2
        go_still_tail 16, (by kernel_rfl)
        generalize hz : bits BinOp.or IntKind.u8 _ _ = z
        have HS1 := HS 1 z (by rw [← hz]; exact or_q0 P q hq8 hlow)
        clear HS hz
        go_wp2
        go_roundg (l.length - (i + 1))
        case measure => omega
        case rel => exact ⟨i + 1, by omega, rfl, by go_num, HS1⟩
      · have hand : bits .and .i64 1 1 = 1 := by decide
        go_wp2
        go_still_tail 16, (by kernel_rfl)
        generalize hz : bits BinOp.or IntKind.u8 _ _ = z
        have HS1 := HS 1 z (by rw [← hz]; exact or_q1 P q hq8 hlow)
        clear HS hz
        go_wp2
        go_roundg (l.length - (i + 1))
        case measure => omega
        case rel => exact ⟨i + 1, by omega, rfl, by go_num, HS1⟩
    · have he : i = l.length := by omega
      subst he
      have HE : Hid (CopyIs w (packB l) (.returned (.slice (some ⟨w.heap.size, 0, none⟩) N N)) wr) := Lib.hid ⟨_, rfl, by rw [packB_length, ← HN.out, ← pcells_done HB.out]; exact hinv.out.1, hinv.out.2⟩
      clear hinv
      go_wp2
      go_ret
      exact HE.out

theorem own_base {w : World} {b b' : Nat} {v : Value} {n : Nat} {xs : List Value} (h : w.ownsRow b' 5 1 v n xs) (hb : b ≤ b') : w.ownsRow b 5 1 v n xs := by
  obtain ⟨hl, h⟩ := h
  refine ⟨hl, ?_⟩
  rcases h with h | ⟨g, cap, cur, hv, hg, h⟩
  · exact .inl h
  · exact .inr ⟨g, cap, cur, hv, Nat.le_trans hb hg, h⟩
/-- A byte count, and the bytes. -/
def cntF (d : List UInt8) : List UInt8 := be 1 (d.length : Int) ++ d
def datF (l : List Int) (coils : Bool) : List UInt8 := if coils = true then packB l else wordsB l
theorem datF_length (l : List Int) (coils : Bool) : (datF l coils).length ≤ 8 + 2 * l.length := by
  unfold datF
  split
  · rw [packB_length]; omega
  · rw [wordsB_length]; omega
theorem datF_pos (l : List Int) (coils : Bool) (h : 0 < l.length) : 0 < (datF l coils).length := by
  unfold datF
  split
  · rw [packB_length]; omega
  · rw [wordsB_length]; omega
theorem qbe_one (x : Int) : bcells (be 1 x) = [.int .u8 (x % 256)] := by
  show bcells [UInt8.ofNat (x % 256).toNat] = _
  simp only [bcells, List.map, cell_byte]
set_option maxRecDepth 100000 in
set_option maxHeartbeats 2000000 in
theorem data_any (v : Value) (l : List Int) (coils : Bool) (w : World) (hv : IntsAt w v l) (hb : coils = true → Bits l) (hl : l.length ≤ 100000) (h0 : 0 < l.length) : Calls Tryd.prog 54 #[v, .bool coils] w (CopyIs w (cntF (datF l coils))) := by
  obtain ⟨i0, hi0, hz0, hz1, hz2⟩ := info_parts info5
  have HV := Lib.hid hv
  have HB := Lib.hid hb
  have HL := Lib.hid hl
  have fin : ∀ (w2 : World) (d : Value) (m : List UInt8), Hid (BytesAt w2 d m) → m.length ≤ 300000 → 0 < m.length → Below w.heap.size w w2 → True := fun _ _ _ _ _ _ _ => trivial
  clear fin hb hl
  have key : ∀ (w2 : World) (m : List UInt8) (g k : Nat), datF l coils = m → Below w.heap.size w w2 → w2.ownsRow w.heap.size 5 1 (.slice (some ⟨g, 0, none⟩) m.length k) m.length (bcells m) → ∀ (g5 c5 : Nat) (w5 : World), (w2.alloc (.cells #[.int .u8 ((m.length : Int) % 256)] 5)).grownBy w5 (some w2.heap.size) → w5.ownsRow w.heap.size 5 1 (.slice (some ⟨g5, 0, none⟩) (1 + m.length) c5) (1 + m.length) ([.int .u8 ((m.length : Int) % 256)] ++ bcells m) → CopyIs w (cntF (datF l coils)) (.returned (.slice (some ⟨g5, 0, none⟩) (1 + m.length) c5)) w5 := fun w2 m g k hm hb2 ho2 g5 c5 w5 hg ho => by
    rw [hm]
    refine ⟨_, rfl, ?_, ?_⟩
    · unfold cntF
      rw [List.length_append, be_length, bcells_append, qbe_one]
      exact ho
    · exact (hb2.trans ((Below.refl _ w2).alloc (Nat.le_refl _) _ |>.mono hb2.size)).grown hg (by have := hb2.size; simp; omega) (fun j hj => by simp at hj; have := hb2.size; omega)
  have HK := Lib.hid key
  clear key
  cases coils with
  | true =>
    go_enter Tryd.func54, Tryd.ntmps54
    go_wp2_with fail
    refine (regs_any v l w HV.out HL.out).mono ?_
    rintro e w1 ⟨v1, rfl, ho1, hb1⟩
    have X1 := Lib.hid hb1
    obtain ⟨a1, c1, rfl⟩ := row_form ho1
    clear ho1 hb1
    go_wp2_with fail
    refine (bits_any v l w1 (HV.out.on X1.out) (HB.out (by first | rfl | trivial)) HL.out).mono ?_
    rintro e w2 ⟨v2, rfl, ho2, hb2⟩
    have hd : datF l true = packB l := rfl
    have hpos := datF_pos l true h0
    have hle := datF_length l true
    rw [hd] at hpos hle
    have HD := Lib.hid hd
    have HLE : Hid ((packB l).length ≤ 300000) := Lib.hid (by have := HL.out; omega)
    obtain ⟨g2, k2, rfl, _, _⟩ := row_lit ho2 hpos
    have O2 := Lib.hid (own_base ho2 X1.out.size)
    have X2 := Lib.hid (X1.out.trans (hb2.mono X1.out.size))
    clear ho2 hb2 hle
    generalize packB l = m at *
    go_wp2_with (at_builtin; refine wpList_append_lies _ rfl _ _ 25 rfl w.heap.size 5 i0 _ 1 1 Tryd.underlying25 hi0 hz0 hz1 hz2 rfl (by omega) _ 1 [.int .u8 ((m.length : Int) % 256)] rfl (World.ownsRow_lit w2 #[.int .u8 ((m.length : Int) % 256)] 1 X2.out.size (by unfold maxLen; omega) (by simp)) ⟨g2, 0, none⟩ m.length k2 (bcells m) rfl (by rw [bcells_length]; omega) (bytesAt_news ((bytesAt_own O2.out).on (below_new w2 _))) (bcells_one _) hpos (by have := HLE.out; unfold maxLen; omega) (by have := HLE.out; omega) (by have := X2.out.size; simp; omega) _ rfl ?_)
    intro g5 c5 w5 ho hg hat hlt5
    have HR := Lib.hid (HK.out w2 m g2 k2 HD.out X2.out O2.out g5 c5 w5 (by simpa [Value.ownBlock] using hg) ho)
    clear ho hg hat hlt5
    go_wp2
    go_ret
    exact HR.out
  | false =>
    go_enter Tryd.func54, Tryd.ntmps54
    go_wp2_with fail
    refine (regs_any v l w HV.out HL.out).mono ?_
    rintro e w2 ⟨v2, rfl, ho2, hb2⟩
    have hd : datF l false = wordsB l := rfl
    have hpos := datF_pos l false h0
    have hle := datF_length l false
    rw [hd] at hpos hle
    have HD := Lib.hid hd
    have HLE : Hid ((wordsB l).length ≤ 300000) := Lib.hid (by have := HL.out; omega)
    obtain ⟨g2, k2, rfl, _, _⟩ := row_lit ho2 hpos
    have O2 := Lib.hid ho2
    have X2 := Lib.hid hb2
    clear ho2 hb2 hle
    generalize wordsB l = m at *
    go_wp2_with (at_builtin; refine wpList_append_lies _ rfl _ _ 25 rfl w.heap.size 5 i0 _ 1 1 Tryd.underlying25 hi0 hz0 hz1 hz2 rfl (by omega) _ 1 [.int .u8 ((m.length : Int) % 256)] rfl (World.ownsRow_lit w2 #[.int .u8 ((m.length : Int) % 256)] 1 X2.out.size (by unfold maxLen; omega) (by simp)) ⟨g2, 0, none⟩ m.length k2 (bcells m) rfl (by rw [bcells_length]; omega) (bytesAt_news ((bytesAt_own O2.out).on (below_new w2 _))) (bcells_one _) hpos (by have := HLE.out; unfold maxLen; omega) (by have := HLE.out; omega) (by have := X2.out.size; simp; omega) _ rfl ?_)
    intro g5 c5 w5 ho hg hat hlt5
    have HR := Lib.hid (HK.out w2 m g2 k2 HD.out X2.out O2.out g5 c5 w5 (by simpa [Value.ownBlock] using hg) ho)
    clear ho hg hat hlt5
    go_wp2
    go_ret
    exact HR.out
end Go.Proofs.YtngfaailbkadfaaDoor
