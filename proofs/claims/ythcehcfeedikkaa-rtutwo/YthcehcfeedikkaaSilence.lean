/- yardlaw8.RtuSilence answers true for every argument; memory that was there stands. -/
import Derived.Test.YthcehcfeedikkaaSizes
namespace Go.Proofs.Ythcehcfeedikkaa
open Go.RowKit Go.Extern.Stop Go.Stop Go.Extern

set_option maxRecDepth 100000 in
set_option maxHeartbeats 2000000 in
theorem silence_new (ao : Option Addr) (len cap : Nat) (s n : Int) (w : World) (hs : s < 1 ∨ 100 < s) : Calls Try.prog 4 #[.int .i64 s, .slice ao len cap, .int .i64 n] w (TrueIs w) := by
  go_enter Try.func4, Try.ntmps4
  go_wp2_with fail
  refine (first_any w).mono ?_
  rintro e w1 ⟨rfl, hb⟩
  have X1 := Lib.hid hb
  clear hb
  go_wp2_with fail
  refine (new_no s w1 hs).mono ?_
  rintro e w2 ⟨x, rfl, hx, hb⟩
  obtain ⟨bx, rfl⟩ := hx.form
  have X2 := Lib.hid (X1.out.trans (hb.mono X1.out.size))
  clear hb hx
  go_wp2_with fail
  refine (first_any w2).mono ?_
  rintro e w3 ⟨rfl, hb⟩
  have X3 := Lib.hid (X2.out.trans (hb.mono X2.out.size))
  clear hb
  go_wp2
  go_ret
  exact ⟨rfl, X3.out⟩

set_option maxRecDepth 100000 in
set_option maxHeartbeats 2000000 in
theorem silence_out (ao : Option Addr) (len cap : Nat) (s n : Int) (w : World) (hlen : len ≤ 9223372036854775807) (h1 : 1 ≤ s) (h2 : s ≤ 100) (h : len = 0 ∨ 256 < len ∨ n < 0 ∨ s ≤ n) : Calls Try.prog 4 #[.int .i64 s, .slice ao len cap, .int .i64 n] w (TrueIs w) := by
  have HS := Lib.hid (And.intro h1 h2)
  have hl : ((len : Int) == 0) = true ∨ (((len : Int) == 0) = false ∧ (256 : Int) < (len : Int)) ∨ (((len : Int) == 0) = false ∧ ¬ (256 : Int) < (len : Int) ∧ n < 0) ∨ (((len : Int) == 0) = false ∧ ¬ (256 : Int) < (len : Int) ∧ ¬ n < 0 ∧ s ≤ n) := by
    rcases Nat.eq_zero_or_pos len with h0 | h0
    · exact .inl (beq_iff_eq.2 (by omega))
    · have hb : ((len : Int) == 0) = false := beq_eq_false_iff_ne.2 (by omega)
      by_cases h3 : 256 < len
      · exact .inr (.inl ⟨hb, by omega⟩)
      · by_cases h4 : n < 0
        · exact .inr (.inr (.inl ⟨hb, by omega, h4⟩))
        · exact .inr (.inr (.inr ⟨hb, by omega, h4, by omega⟩))
  clear h1 h2 h
  rcases hl with h | ⟨h, h'⟩ | ⟨h, h', h''⟩ | ⟨h, h', h'', h'''⟩ <;> (
    go_enter Try.func4, Try.ntmps4
    go_wp2_with fail
    refine (first_any w).mono ?_
    rintro e w1 ⟨rfl, hb⟩
    have X1 := Lib.hid hb
    clear hb
    go_wp2_with fail
    refine (new_ok s w1 HS.out.1 HS.out.2).mono ?_
    rintro e w2 ⟨rfl, h0, hb⟩
    have X2 := Lib.hid (X1.out.trans (hb.mono X1.out.size))
    clear hb h0
    go_wp2_with fail
    refine (first_any w2).mono ?_
    rintro e w3 ⟨rfl, hb⟩
    have X3 := Lib.hid (X2.out.trans (hb.mono X2.out.size))
    clear hb
    go_wp2
    go_ret
    exact ⟨rfl, X3.out⟩)

theorem BytesAt.at' {w : World} {ao : Option Addr} {n cap : Nat} {l : List UInt8} (h : BytesAt w (.slice ao n cap) l) (i : Nat) (hi : i < l.length) : ∃ b off, ao = some ⟨b, off, none⟩ ∧ w.cell? ⟨b, off + i, none⟩ = some (.int .u8 (l[i].toNat : Int)) := by
  obtain ⟨ao', cap', e, hc⟩ := h
  simp only [Value.slice.injEq] at e
  obtain ⟨rfl, _, _⟩ := e
  exact hc i hi
theorem push_take (l : List UInt8) (i : Nat) (hi : i < l.length) (h : l.length ≤ 256) : pushB (l.take i) l[i] = l.take (i + 1) := by
  unfold pushB
  rw [if_pos (by rw [List.length_take]; omega)]
  exact List.take_append_getElem hi

set_option maxRecDepth 100000 in
set_option maxHeartbeats 4000000 in
theorem silence_in (ao : Option Addr) (cap : Nat) (l : List UInt8) (s n : Nat) (w : World) (hv : BytesAt w (.slice ao l.length cap) l) (h0 : 0 < l.length) (hlen : l.length ≤ 256) (h1 : 1 ≤ s) (h2 : s ≤ 100) (hn : n < s) : Calls Try.prog 4 #[.int .i64 (s : Int), .slice ao l.length cap, .int .i64 (n : Int)] w (TrueIs w) := by
  have HV := Lib.hid hv
  have hn' : decide ((s : Int) ≤ (n : Int)) = false := decide_eq_false (by omega)
  have hn2 : decide (s ≤ n) = false := decide_eq_false (by omega)
  have hn0 : decide ((n : Int) < 0) = false := decide_eq_false (by omega)
  have hl0 : ((l.length : Int) == 0) = false := beq_eq_false_iff_ne.2 (by omega)
  have hl' : decide ((256 : Int) < (l.length : Int)) = false := decide_eq_false (by omega)
  clear hv
  go_enter Try.func4, Try.ntmps4
  go_wp2_with fail
  refine (first_any w).mono ?_
  rintro e w1 ⟨rfl, hb⟩
  have X1 := Lib.hid hb
  clear hb
  go_wp2_with fail
  refine (new_ok s w1 (by omega) (by omega)).mono ?_
  rintro e w2 ⟨rfl, hf, hb⟩
  have F2 : Hid (Fm w1 w1.heap.size s 0 [] w2) := Lib.hid (hf.fm' (Off.of_below _ hb))
  clear hb hf
  go_wp2_with fail
  go_loopg [9] l.length (fun k s9 wr => ∃ i : Nat, i ≤ l.length ∧ k = l.length - i ∧ s9 = .int .i64 i ∧ Hid (Fm w1 w1.heap.size s 0 (l.take i) wr))
  case atStart => exact ⟨0, Nat.zero_le _, rfl, rfl, F2⟩
  case round =>
    obtain ⟨i, hi, rfl, rfl, HF⟩ := hrel
    obtain ⟨wo, hwo⟩ : ∃ x, x = wr := ⟨_, rfl⟩
    subst hwo
    by_cases hlt : i < l.length
    · go_wp2_with fail
      go_loopg [10] n (fun k s10 wr => ∃ j : Nat, j ≤ n ∧ k = n - j ∧ s10 = .int .i64 j ∧ Hid (Fm w1 w1.heap.size s (j : Int) (l.take i) wr))
      case atStart => exact ⟨0, Nat.zero_le _, rfl, rfl, HF⟩
      case round =>
        obtain ⟨j, hj, rfl, rfl, HJ⟩ := hrel
        obtain ⟨wj, hwj⟩ : ∃ x, x = wr := ⟨_, rfl⟩
        subst hwj
        obtain ⟨bb, oo, rfl, hc⟩ := (HV.out.on (X1.out.trans ((HJ.out.below (Nat.le_refl _)).mono X1.out.size))).at' i hlt
        have HP : Hid (pushB (l.take i) l[i] = l.take (i + 1)) := Lib.hid (push_take l i hlt hlen)
        have hbl := byte_lt l[i]
        by_cases hgo : j < n ∧ 0 < i
        · have hg1 := hgo.1
          have hg2 := hgo.2
          go_wp2_with fail
          refine (tick_more w1 wj _ j s _ HJ.out (by rw [List.length_take]; omega) (by omega) (by omega)).mono ?_
          rintro e w3 ⟨rfl, h⟩
          have H3 := Lib.hid h
          clear h
          go_wp2
          go_roundg (n - (j + 1))
          case measure => omega
          case rel => exact ⟨j + 1, by omega, rfl, by go_num, H3⟩
        · have hcase : (¬ (j : Int) < (n : Int)) ∨ ((j : Int) < (n : Int) ∧ ¬ (0 : Int) < (i : Int)) := by omega
          generalize hx : l[i] = x at *
          clear hx
          rcases hcase with hc1 | ⟨hc1, hc2⟩ <;> (
            go_wp2_with fail
            refine (byte_any w1 wj _ s j (l.take i) x HJ.out (by rw [List.length_take]; omega)).mono ?_
            rintro e w3 ⟨rfl, h⟩
            rw [HP.out] at h
            have H3 := Lib.hid h
            clear h
            go_wp2
            go_roundg (l.length - (i + 1))
            case measure => omega
            case rel => exact ⟨i + 1, by omega, rfl, by go_num, H3⟩)
    · have hi2 : i = l.length := by omega
      subst hi2
      rw [List.take_length] at HF
      go_wp2_with fail
      go_loopg [13] s (fun k s13 wr => ∃ j : Nat, 1 ≤ j ∧ j ≤ s ∧ k = s + 1 - j ∧ s13 = .int .i64 j ∧ Hid (Fm w1 w1.heap.size s ((j - 1 : Nat) : Int) l wr))
      case atStart => exact ⟨1, Nat.le_refl _, h1, rfl, rfl, HF⟩
      case round =>
        obtain ⟨j, hj1, hj, rfl, rfl, HJ⟩ := hrel
        obtain ⟨wj, hwj⟩ : ∃ x, x = wr := ⟨_, rfl⟩
        subst hwj
        by_cases hgo : j < s
        · go_wp2_with fail
          refine (tick_more w1 wj _ (j - 1) s l HJ.out h0 (by omega) (by omega)).mono ?_
          rintro e w3 ⟨rfl, h⟩
          have H3 : Hid (Fm w1 w1.heap.size s ((j + 1 - 1 : Nat) : Int) l w3) := Lib.hid (by rwa [show j - 1 + 1 = j + 1 - 1 by omega] at h)
          clear h
          go_wp2
          go_roundg (s + 1 - (j + 1))
          case measure => omega
          case rel => exact ⟨j + 1, by omega, by omega, rfl, by go_num, H3⟩
        · go_wp2_with fail
          refine (tick_end w1 wj _ (j - 1) s l HJ.out h0 (by omega) (by omega)).mono ?_
          rintro e w3 ⟨v3, rfl, ho, hf, hoff⟩
          obtain ⟨g3, k3, rfl, _, _⟩ := row_lit ho h0
          have O3 := Lib.hid ho
          have F3 := Lib.hid (hf.fm' hoff)
          clear ho hf hoff
          go_wp2_with fail
          refine (tick_none w1 w3 _ s _ F3.out).mono ?_
          rintro e w4 ⟨rfl, rfl⟩
          go_wp2_with fail
          refine (first_any w3).mono ?_
          rintro e w4 ⟨rfl, hb⟩
          have O4 := Lib.hid (bytesAt_own (ownsRow_off O3.out (Off.of_below (fun _ => False) hb) (fun _ _ f => f)))
          have F4 := Lib.hid (F3.out.on hb)
          have X4 := Lib.hid (X1.out.trans ((F4.out.below (Nat.le_refl _)).mono X1.out.size))
          clear hb
          go_wp2_with fail
          refine (alike_any _ _ l l w4 O4.out (HV.out.on X4.out)).mono ?_
          rintro e w5 ⟨rfl, rfl⟩
          rw [beq_self_eq_true]
          go_wp2_with fail
          refine (pend_any w1 w4 _ s _ [] F4.out).mono ?_
          rintro e w5 ⟨rfl, rfl⟩
          go_wp2
          go_ret
          exact ⟨rfl, X4.out⟩

theorem silence_any (s : Int) (ao : Option Addr) (cap : Nat) (l : List UInt8) (n : Int) (w : World) (hv : BytesAt w (.slice ao l.length cap) l) (hlen : l.length ≤ 9223372036854775807) : Calls Try.prog 4 #[.int .i64 s, .slice ao l.length cap, .int .i64 n] w (TrueIs w) := by
  by_cases hs : s < 1 ∨ 100 < s
  · exact silence_new ao l.length cap s n w hs
  · by_cases ho : l.length = 0 ∨ 256 < l.length ∨ n < 0 ∨ s ≤ n
    · exact silence_out ao l.length cap s n w hlen (by omega) (by omega) ho
    · obtain ⟨m, rfl⟩ : ∃ m : Nat, n = (m : Int) := ⟨n.toNat, by omega⟩
      obtain ⟨t, rfl⟩ : ∃ t : Nat, s = (t : Int) := ⟨s.toNat, by omega⟩
      exact silence_in ao cap l t m w hv (by omega) (by omega) (by omega) (by omega) (by omega)
end Go.Proofs.Ythcehcfeedikkaa
