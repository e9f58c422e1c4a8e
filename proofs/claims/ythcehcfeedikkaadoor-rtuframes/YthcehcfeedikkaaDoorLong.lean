/- rtu.Open of too few bytes, or too many; yardlaw8.RtuLong answers true for every argument; memory that was there stands. -/
import Derived.Test.YthcehcfeedikkaaDoorFirst
import Derived.Test.YthcehcfeedikkaaDoorSpec
namespace Go.Proofs.YthcehcfeedikkaaDoor
open Go.RowKit Go.Extern.Stop Go.Stop Go.Extern

def TrueIs (w : World) (e : Ending) (w' : World) : Prop := e = .returned (.bool true) ∧ Below w.heap.size w w'
theorem RErr.chain {w : World} {x c : Int} {v : Value} (h : RErr w x c v) : Chain w (.iface 29 (.int .i64 c)) [(sRtu, x)] v := by
  obtain ⟨b, rfl, hb⟩ := h
  exact ⟨b, _, rfl, lt_heap hb, by rw [cell_of_row _ _ _ _ _ _ hb]; rfl, by rw [cell_of_row _ _ _ _ _ _ hb]; rfl, by rw [cell_of_row _ _ _ _ _ _ hb]; rfl, rfl⟩
theorem RErr.off {w w' : World} {x c : Int} {v : Value} {k : Nat} {cs : Array Value} (h : RErr w x c v) (ho : Off (fun j => j = k) w w') (hb : w.heap[k]? = some (.cells cs 69 (0, 0))) : RErr w' x c v := by
  obtain ⟨b, rfl, h2⟩ := h
  refine ⟨b, rfl, (ho.block b (lt_heap h2) (fun e => ?_)).trans h2⟩
  subst e
  rw [h2] at hb
  simp at hb

set_option maxRecDepth 100000 in
set_option maxHeartbeats 2000000 in
theorem open_short (ao : Option Addr) (n cap : Nat) (w : World) (h : n < 4) : Calls Tryd.prog 10 #[.slice ao n cap] w (OpenNo w n 2) := by
  have h' : (n : Int) < 4 := by omega
  go_enter Tryd.func10, Tryd.ntmps10
  go_wp2_with fail
  refine (rfault_any n 2 w).mono ?_
  rintro e w1 ⟨⟨x, rfl, hx⟩, hb⟩
  obtain ⟨bx, rfl⟩ := hx.form
  have HR : Hid (OpenNo w n 2 (.returned (.tuple #[.int .i64 0, .slice none 0 0, .iface 76 (.pointer (some ⟨bx, 0, none⟩))])) w1) := Lib.hid ⟨_, rfl, hx, hb⟩
  clear hx hb
  go_wp2
  go_ret3
  exact HR.out
set_option maxRecDepth 100000 in
set_option maxHeartbeats 2000000 in
theorem open_long (ao : Option Addr) (n cap : Nat) (w : World) (h : 256 < n) : Calls Tryd.prog 10 #[.slice ao n cap] w (OpenNo w n 3) := by
  have h' : (256 : Int) < (n : Int) := by omega
  have h2 : ¬ (n : Int) < 4 := by omega
  go_enter Tryd.func10, Tryd.ntmps10
  go_wp2_with fail
  refine (rfault_any n 3 w).mono ?_
  rintro e w1 ⟨⟨x, rfl, hx⟩, hb⟩
  obtain ⟨bx, rfl⟩ := hx.form
  have HR : Hid (OpenNo w n 3 (.returned (.tuple #[.int .i64 0, .slice none 0 0, .iface 76 (.pointer (some ⟨bx, 0, none⟩))])) w1) := Lib.hid ⟨_, rfl, hx, hb⟩
  clear hx hb
  go_wp2
  go_ret3
  exact HR.out

theorem BytesAt.at' {w : World} {ao : Option Addr} {n cap : Nat} {l : List UInt8} (h : BytesAt w (.slice ao n cap) l) (i : Nat) (hi : i < l.length) : ∃ b off, ao = some ⟨b, off, none⟩ ∧ w.cell? ⟨b, off + i, none⟩ = some (.int .u8 (l[i].toNat : Int)) := by
  obtain ⟨ao', cap', e, hc⟩ := h
  simp only [Value.slice.injEq] at e
  obtain ⟨rfl, _, _⟩ := e
  exact hc i hi
theorem push_take (l : List UInt8) (i : Nat) (hi : i < l.length) (h : l.length ≤ 256) : pushB (l.take i) l[i] = l.take (i + 1) := by
  unfold pushB
  rw [if_pos (by rw [List.length_take]; omega)]
  exact List.take_append_getElem hi
/-- Sevens. -/
def sev (i : Nat) : List UInt8 := List.replicate (min i 257) 7
theorem sev_length (i : Nat) : (sev i).length = min i 257 := by simp [sev]
theorem sev_push (i : Nat) : pushB (sev i) 7 = sev (i + 1) := by
  unfold pushB
  rw [sev_length]
  split
  · have h1 : min i 257 = i := by omega
    have h2 : min (i + 1) 257 = i + 1 := by omega
    unfold sev
    rw [h1, h2]
    exact List.replicate_succ'.symm
  · have h1 : min i 257 = 257 := by omega
    have h2 : min (i + 1) 257 = 257 := by omega
    unfold sev
    rw [h1, h2]

set_option maxRecDepth 100000 in
set_option maxHeartbeats 2000000 in
theorem long_out (n : Int) (ao : Option Addr) (len cap : Nat) (w : World) (hlen : len ≤ 9223372036854775807) (h : n ≤ 256 ∨ 2000 < n ∨ len = 0 ∨ 100 < len) : Calls Tryd.prog 5 #[.int .i64 n, .slice ao len cap] w (TrueIs w) := by
  have hl : n ≤ 256 ∨ (¬ n ≤ 256 ∧ 2000 < n) ∨ (¬ n ≤ 256 ∧ ¬ 2000 < n ∧ ((len : Int) == 0) = true) ∨ (¬ n ≤ 256 ∧ ¬ 2000 < n ∧ ((len : Int) == 0) = false ∧ (100 : Int) < (len : Int)) := by
    by_cases h1 : n ≤ 256
    · exact .inl h1
    · by_cases h2 : 2000 < n
      · exact .inr (.inl ⟨h1, h2⟩)
      · by_cases h3 : len = 0
        · exact .inr (.inr (.inl ⟨h1, h2, beq_iff_eq.2 (by omega)⟩))
        · exact .inr (.inr (.inr ⟨h1, h2, beq_eq_false_iff_ne.2 (by omega), by omega⟩))
  clear h
  rcases hl with q1 | ⟨q1, q2⟩ | ⟨q1, q2, q3⟩ | ⟨q1, q2, q3, q4⟩ <;> (
    go_enter Tryd.func5, Tryd.ntmps5
    go_wp2_with fail
    refine (first_any w).mono ?_
    rintro e w1 ⟨rfl, hb⟩
    have X1 := Lib.hid hb
    clear hb
    go_wp2_with fail
    refine (new_ok 1 w1 (by omega) (by omega)).mono ?_
    rintro e w2 ⟨rfl, h0, hb⟩
    have X2 := Lib.hid (X1.out.trans (hb.mono X1.out.size))
    clear hb h0
    go_wp2_with fail
    refine (first_any w2).mono ?_
    rintro e w3 ⟨rfl, hb⟩
    have X3 := Lib.hid (X2.out.trans (hb.mono X2.out.size))
    clear hb
    go_wp2
    go_ret
    exact ⟨rfl, X3.out⟩)

set_option maxRecDepth 100000 in
set_option maxHeartbeats 4000000 in
theorem long_in (n : Nat) (ao : Option Addr) (cap : Nat) (l : List UInt8) (w : World) (hg : ErrT w) (hv : BytesAt w (.slice ao l.length cap) l) (h0 : 0 < l.length) (hl : l.length ≤ 100) (hn1 : 256 < n) (hn2 : n ≤ 2000) : Calls Tryd.prog 5 #[.int .i64 (n : Int), .slice ao l.length cap] w (TrueIs w) := by
  have HV := Lib.hid hv
  have HG := Lib.hid hg
  have d1 : decide ((n : Int) ≤ 256) = false := decide_eq_false (by omega)
  have d2 : decide ((2000 : Int) < (n : Int)) = false := decide_eq_false (by omega)
  have d3 : ((l.length : Int) == 0) = false := beq_eq_false_iff_ne.2 (by omega)
  have d4 : decide ((100 : Int) < (l.length : Int)) = false := decide_eq_false (by omega)
  clear hv hg
  go_enter Tryd.func5, Tryd.ntmps5
  go_wp2_with fail
  refine (first_any w).mono ?_
  rintro e w1 ⟨rfl, hb⟩
  have X1 := Lib.hid hb
  clear hb
  go_wp2_with fail
  refine (new_ok 1 w1 (by omega) (by omega)).mono ?_
  rintro e w2 ⟨rfl, hf, hb⟩
  have F2 : Hid (Fm w1 w1.heap.size 1 0 (sev 0) w2) := Lib.hid (hf.fm' (Off.of_below _ hb))
  clear hb hf
  go_wp2_with fail
  go_loopg [7] n (fun k s7 wr => ∃ i : Nat, i ≤ n ∧ k = n - i ∧ s7 = .int .i64 i ∧ Hid (Fm w1 w1.heap.size 1 0 (sev i) wr))
  case atStart => exact ⟨0, Nat.zero_le _, rfl, rfl, F2⟩
  case round =>
    obtain ⟨i, hi, rfl, rfl, HF⟩ := hrel
    obtain ⟨wo, hwo⟩ : ∃ x, x = wr := ⟨_, rfl⟩
    subst hwo
    by_cases hlt : i < n
    · go_wp2_with fail
      refine (byte_any w1 wo _ 1 0 (sev i) 7 HF.out (by rw [sev_length]; omega)).mono ?_
      rintro e w3 ⟨rfl, h⟩
      rw [sev_push] at h
      have H3 := Lib.hid h
      clear h
      go_wp2
      go_roundg (n - (i + 1))
      case measure => omega
      case rel => exact ⟨i + 1, by omega, rfl, by go_num, H3⟩
    · have hi2 : i = n := by omega
      subst hi2
      have hsl : (sev i).length = 257 := by rw [sev_length]; omega
      go_wp2_with fail
      refine (tick_end w1 wo _ 0 1 (sev i) HF.out (by omega) (by omega) (by omega)).mono ?_
      rintro e w3 ⟨v3, rfl, ho, hf, hoff⟩
      rw [hsl] at ho
      obtain ⟨g3, k3, rfl, _, _⟩ := row_lit ho (by omega)
      have F3 := Lib.hid hf
      have X3 := Lib.hid (X1.out.trans ((hoff.below (Nat.le_refl _) (fun k e => by rw [e]; exact Nat.le_refl _)).mono X1.out.size))
      have hs3 := Lib.hid (Nat.le_trans X1.out.size (Nat.le_refl _))
      clear ho hf hoff
      go_wp2_with fail
      refine (open_long _ 257 _ w3 (by omega)).mono ?_
      rintro e w4 ⟨x, rfl, hx, hb⟩
      obtain ⟨bx, rfl⟩ := hx.form
      have R4 := Lib.hid hx
      have F4 : Hid (Fm0 w4 w1.heap.size 1 ((0 + 1 : Nat) : Int)) := Lib.hid ((hb.block _ (lt_heap F3.out)).trans F3.out)
      have X4 := Lib.hid (X3.out.trans (hb.mono X3.out.size))
      clear hx hb
      go_wp2_with fail
      go_loopg [13] l.length (fun k s13 wr => ∃ j : Nat, j ≤ l.length ∧ k = l.length - j ∧ s13 = .int .i64 j ∧ Hid (∃ q : Int, Fm w4 w1.heap.size 1 q (l.take j) wr ∧ (0 < j → q = 0)))
      case atStart => exact ⟨0, Nat.zero_le _, rfl, rfl, Lib.hid ⟨_, F4.out.fm, fun h => absurd h (by omega)⟩⟩
      case round =>
        obtain ⟨j, hj, rfl, rfl, HJ⟩ := hrel
        obtain ⟨wj, hwj⟩ : ∃ x, x = wr := ⟨_, rfl⟩
        subst hwj
        obtain ⟨qj, HFJ, hqj⟩ := HJ.out
        have XJ : Hid (Below w.heap.size w wj) := Lib.hid (by
          have h1 := HFJ.off0.below (B := w.heap.size) (Nat.le_trans (Nat.le_refl _) X4.out.size) (fun k e => by rw [e]; exact X1.out.size)
          exact X4.out.trans h1)
        have HFJ := Lib.hid HFJ
        clear HJ
        by_cases hlt : j < l.length
        · clear hqj
          obtain ⟨bb, oo, hoo, hc⟩ := (HV.out.on XJ.out).at' j hlt
          have HP : Hid (pushB (l.take j) l[j] = l.take (j + 1)) := Lib.hid (push_take l j hlt (by omega))
          have hbl := byte_lt l[j]
          generalize hx : l[j] = x at *
          clear hx
          subst hoo
          go_wp2_with fail
          refine (byte_any w4 wj _ 1 qj (l.take j) x HFJ.out (by rw [List.length_take]; omega)).mono ?_
          rintro e w5 ⟨rfl, h⟩
          rw [HP.out] at h
          have H5 := Lib.hid h
          clear h
          go_wp2
          go_roundg (l.length - (j + 1))
          case measure => omega
          case rel => exact ⟨j + 1, by omega, rfl, by go_num, Lib.hid ⟨0, H5.out, fun _ => rfl⟩⟩
        · have hj2 : j = l.length := by omega
          subst hj2
          have hq0 : qj = 0 := hqj h0
          subst hq0
          rw [List.take_length] at HFJ
          clear hqj
          go_wp2_with fail
          refine (tick_end w4 wj _ 0 1 l HFJ.out h0 (by omega) (by omega)).mono ?_
          rintro e w5 ⟨v5, rfl, ho, hf, hoff⟩
          obtain ⟨g5, k5, rfl, _, _⟩ := row_lit ho h0
          have O5 := Lib.hid (bytesAt_own ho)
          have R5 := Lib.hid (R4.out.off hoff F4.out)
          have X5 := Lib.hid (X4.out.trans (hoff.below (B := w.heap.size) X4.out.size (fun k e => by rw [e]; exact X1.out.size)))
          clear ho hf hoff
          go_wp2_with fail
          refine (first_any w5).mono ?_
          rintro e w6 ⟨rfl, hb⟩
          have O6 := Lib.hid (O5.out.on hb)
          have R6 := Lib.hid (R5.out.on hb)
          have X6 := Lib.hid (X5.out.trans (hb.mono X5.out.size))
          clear hb
          go_wp2_with fail
          refine (of_code _ _ 3 w6 (HG.out.up X6.out) R6.out.chain).mono ?_
          rintro e w7 ⟨rfl, hb⟩
          have O7 := Lib.hid (O6.out.on hb)
          have X7 := Lib.hid (X6.out.trans (hb.mono X6.out.size))
          clear hb
          go_wp2_with fail
          refine (alike_any _ _ l l w7 O7.out (HV.out.on X7.out)).mono ?_
          rintro e w8 ⟨rfl, rfl⟩
          rw [beq_self_eq_true]
          go_wp2
          go_ret
          exact ⟨rfl, X7.out⟩

theorem long_any (n : Int) (ao : Option Addr) (cap : Nat) (l : List UInt8) (w : World) (hg : ErrT w) (hv : BytesAt w (.slice ao l.length cap) l) (hlen : l.length ≤ 9223372036854775807) : Calls Tryd.prog 5 #[.int .i64 n, .slice ao l.length cap] w (TrueIs w) := by
  by_cases h : n ≤ 256 ∨ 2000 < n ∨ l.length = 0 ∨ 100 < l.length
  · exact long_out n ao l.length cap w hlen h
  · obtain ⟨m, rfl⟩ : ∃ m : Nat, n = (m : Int) := ⟨n.toNat, by omega⟩
    exact long_in m ao cap l w hg hv (by omega) (by omega) (by omega) (by omega)
end Go.Proofs.YthcehcfeedikkaaDoor
