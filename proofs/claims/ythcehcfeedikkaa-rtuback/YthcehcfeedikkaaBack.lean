/- yardlaw8.RtuBack answers true for every argument; memory that was there stands. -/
import Derived.Test.YthcehcfeedikkaaSilence
namespace Go.Proofs.Ythcehcfeedikkaa
open Go.RowKit Go.Extern.Stop Go.Stop Go.Extern

/-- A byte stored into a row of one's own. -/
theorem own_stored {w : World} {base g n cap : Nat} {xs : List UInt8} (h : w.ownsRow base 5 1 (.slice (some ⟨g, 0, none⟩) n cap) n (bcells xs)) (i : Nat) (y : UInt8) :
    (w.setCell ⟨g, i, none⟩ (.int .u8 (y.toNat : Int))).ownsRow base 5 1 (.slice (some ⟨g, 0, none⟩) n cap) n (bcells (xs.set i y)) := by
  have := (h.stored i (.int .u8 (y.toNat : Int))).1
  rwa [show (bcells xs).set i (.int .u8 (y.toNat : Int)) = bcells (xs.set i y) by simp [bcells, List.map_set]] at this
theorem pow_lt8 (q : Nat) (h : q < 8) : 0 < 2 ^ q ∧ 2 ^ q < 256 := by
  have : q = 0 ∨ q = 1 ∨ q = 2 ∨ q = 3 ∨ q = 4 ∨ q = 5 ∨ q = 6 ∨ q = 7 := by omega
  rcases this with rfl | rfl | rfl | rfl | rfl | rfl | rfl | rfl <;> decide
theorem turned_byte (z : UInt8) (q : Nat) (hq : q < 8) : ∃ c : UInt8, bits .xor .u8 (z.toNat : Int) ((2 : Int) ^ q % 256) = (c.toNat : Int) ∧ c ≠ z := by
  have hp := pow_lt8 q hq
  have e : (2 : Int) ^ q % 256 = ((2 ^ q : Nat) : Int) := by
    have h2 : ((2 ^ q : Nat) : Int) = (2 : Int) ^ q := by simp
    rw [← h2]
    omega
  have hx : z.toNat ^^^ 2 ^ q < 256 := Nat.xor_lt_two_pow (n := 8) (byte_lt z) hp.2
  have hc : (UInt8.ofNat (z.toNat ^^^ 2 ^ q)).toNat = z.toNat ^^^ 2 ^ q := by rw [UInt8.toNat_ofNat']; omega
  refine ⟨UInt8.ofNat (z.toNat ^^^ 2 ^ q), ?_, fun h => ?_⟩
  · rw [e, u8_xor_nat _ _ (byte_lt z) hp.2, hc]
  · have h1 := congrArg UInt8.toNat h
    rw [hc] at h1
    have h3 : z.toNat ^^^ 2 ^ q = z.toNat ^^^ 0 := by rw [h1, Nat.xor_zero]
    have := xor_cancel h3
    omega

set_option maxRecDepth 100000 in
set_option maxHeartbeats 2000000 in
theorem back_long (addr bit : Int) (ao : Option Addr) (n cap : Nat) (w : World) (hn : n ≤ 9223372036854775807) (h : 3000 < n) : Calls Try.prog 3 #[.int .i64 addr, .slice ao n cap, .int .i64 bit] w (TrueIs w) := by
  go_enter Try.func3, Try.ntmps3
  go_wp2_with fail
  refine (first_any w).mono ?_
  rintro e w1 ⟨rfl, hb⟩
  have X1 := Lib.hid hb
  clear hb
  go_wp2_with fail
  refine (first_any w1).mono ?_
  rintro e w2 ⟨rfl, hb⟩
  have X2 := Lib.hid (X1.out.trans (hb.mono X1.out.size))
  clear hb
  go_wp2
  go_ret
  exact ⟨rfl, X2.out⟩

set_option maxRecDepth 100000 in
set_option maxHeartbeats 2000000 in
theorem back_no (addr bit : Int) (ao : Option Addr) (n cap : Nat) (w : World) (hn : n ≤ 3000) (h : frCode addr n ≠ 0) : Calls Try.prog 3 #[.int .i64 addr, .slice ao n cap, .int .i64 bit] w (TrueIs w) := by
  have H := Lib.hid h
  have hn3 : decide ((3000 : Int) < (n : Int)) = false := decide_eq_false (by omega)
  have hcase : addr < 0 ∨ (¬ addr < 0 ∧ 255 < addr) ∨ (¬ addr < 0 ∧ ¬ 255 < addr ∧ ((n : Int) == 0) = true) ∨ (¬ addr < 0 ∧ ¬ 255 < addr ∧ ((n : Int) == 0) = false ∧ (253 : Int) < (n : Int)) := by
    have hz : ¬ ((0 ≤ addr ∧ addr ≤ 255) ∧ 0 < n ∧ n ≤ 253) := fun q => h (frCode_zero.2 q)
    by_cases h1 : addr < 0
    · exact .inl h1
    · by_cases h2 : 255 < addr
      · exact .inr (.inl ⟨h1, h2⟩)
      · by_cases h3 : n = 0
        · exact .inr (.inr (.inl ⟨h1, h2, beq_iff_eq.2 (by omega)⟩))
        · exact .inr (.inr (.inr ⟨h1, h2, beq_eq_false_iff_ne.2 (by omega), by omega⟩))
  clear h
  rcases hcase with q1 | ⟨q1, q2⟩ | ⟨q1, q2, q3⟩ | ⟨q1, q2, q3, q4⟩ <;> (
    go_enter Try.func3, Try.ntmps3
    go_wp2_with fail
    refine (first_any w).mono ?_
    rintro e w1 ⟨rfl, hb⟩
    have X1 := Lib.hid hb
    clear hb
    go_wp2_with fail
    refine (frame_no addr ao n cap w1 (by omega) H.out).mono ?_
    rintro e w2 ⟨x, rfl, hx, hb⟩
    obtain ⟨bx, rfl⟩ := hx.form
    have X2 := Lib.hid (X1.out.trans (hb.mono X1.out.size))
    clear hb hx
    go_wp2_with fail
    refine (first_any w2).mono ?_
    rintro e w3 ⟨rfl, hb⟩
    have X3 := Lib.hid (X2.out.trans (hb.mono X2.out.size))
    clear hb
    go_wp2
    go_ret
    exact ⟨rfl, X3.out⟩)

set_option maxRecDepth 100000 in
set_option maxHeartbeats 4000000 in
theorem back_in (a : UInt8) (bit : Int) (ao : Option Addr) (cap : Nat) (l : List UInt8) (w : World) (hv : BytesAt w (.slice ao l.length cap) l) (h0 : 0 < l.length) (h1 : l.length ≤ 253) : Calls Try.prog 3 #[.int .i64 (a.toNat : Int), .slice ao l.length cap, .int .i64 bit] w (TrueIs w) := by
  have HV := Lib.hid hv
  have hn3 : decide ((3000 : Int) < (l.length : Int)) = false := decide_eq_false (by omega)
  have hml := frm_length a l
  have HM := Lib.hid (frm_mid a l)
  have HH := Lib.hid (frm_head a l)
  have HO := Lib.hid (frm_opens a l h0 h1)
  have HFR := Lib.hid (frame_ok a (.slice ao l.length cap) l)
  have hne : ((a.toNat : Int) != (a.toNat : Int)) = false := by simp
  clear hv
  generalize frm a l = fl at *
  obtain ⟨L, hL⟩ : ∃ L, L = fl.length := ⟨_, rfl⟩
  rw [← hL] at hml
  have HL := Lib.hid hL
  have HML := Lib.hid hml
  have hL1 : L ≤ 256 := by omega
  have hL4 : 4 ≤ L := by omega
  clear hL hml
  have key : ∀ (w1 : World), Hid (Below w.heap.size w w1) → Calls Try.prog 8 #[.int .i64 (a.toNat : Int), .slice ao l.length cap] w1 (fun e w2 => ∃ (g k : Nat), e = .returned (.tuple #[.slice (some ⟨g, 0, none⟩) L k, .nilIface]) ∧ Hid (w2.ownsRow w1.heap.size 5 1 (.slice (some ⟨g, 0, none⟩) L k) L (bcells fl) ∧ L ≤ k ∧ w1.heap.size ≤ g) ∧ Hid (Below w.heap.size w w2)) := fun w1 X1 => by
    refine (HFR.out w1 (HV.out.on X1.out) h0 h1).mono ?_
    rintro e w2 ⟨v, rfl, ho, hb⟩
    rw [← HL.out] at ho
    obtain ⟨g, k, rfl, hg, _⟩ := row_lit ho (by omega)
    exact ⟨g, k, rfl, Lib.hid ⟨ho, row_cap ho, hg⟩, Lib.hid (X1.out.trans (hb.mono X1.out.size))⟩
  have HK := Lib.hid key
  have keyO : ∀ (w2 : World) (g k : Nat), Hid (w2.ownsRow w.heap.size 5 1 (.slice (some ⟨g, 0, none⟩) L k) L (bcells fl)) → Hid (L ≤ k) → Calls Try.prog 9 #[.slice (some ⟨g, 0, none⟩) L k] w2 (fun e w3 => ∃ a1 k1, e = .returned (.tuple #[.int .i64 (a.toNat : Int), .slice a1 l.length k1, .nilIface]) ∧ Hid (BytesAt w3 (.slice a1 l.length k1) l) ∧ Hid (Below w2.heap.size w2 w3)) := fun w2 g k ho hk => by
    have e1 := HL.out
    have := open_any (some ⟨g, 0, none⟩) k fl w2 (by rw [← e1]; exact bytesAt_own (by rw [← e1]; exact ho.out)) (by rw [← e1]; exact hk.out) (by omega) (by omega)
    rw [← e1] at this
    refine this.mono ?_
    rintro e w3 ⟨hok, _⟩
    obtain ⟨v, rfl, hr, hb⟩ := hok HO.out
    rw [HM.out, HH.out, show fl.length - 3 = l.length by have := HML.out; omega] at *
    obtain ⟨a1, k1, rfl⟩ := row_form hr
    exact ⟨a1, k1, rfl, Lib.hid (bytesAt_own hr), Lib.hid hb⟩
  have HKO := Lib.hid keyO
  clear key keyO
  by_cases hneg : bit < 0
  · go_enter Try.func3, Try.ntmps3
    go_wp2_with fail
    refine (first_any w).mono ?_
    rintro e w1 ⟨rfl, hb⟩
    have X1 := Lib.hid hb
    clear hb
    go_wp2_with fail
    refine (HK.out w1 X1).mono ?_
    rintro e w2 ⟨g, k, rfl, HR, X2⟩
    go_wp2_with fail
    refine (HKO.out w2 g k (Lib.hid (own_base HR.out.1 X1.out.size)) (Lib.hid HR.out.2.1)).mono ?_
    rintro e w3 ⟨a1, k1, rfl, HB3, X3⟩
    have X3' := Lib.hid (X2.out.trans (X3.out.mono X2.out.size))
    go_wp2_with fail
    refine (alike_any _ _ l l w3 HB3.out (HV.out.on X3'.out)).mono ?_
    rintro e w4 ⟨rfl, rfl⟩
    rw [beq_self_eq_true]
    go_wp2_with fail
    refine (first_any w3).mono ?_
    rintro e w4 ⟨rfl, hb⟩
    have X4 := Lib.hid (X3'.out.trans (hb.mono X3'.out.size))
    clear hb
    go_wp2
    go_ret
    exact ⟨rfl, X4.out⟩
  · obtain ⟨m, rfl⟩ : ∃ m : Nat, bit = (m : Int) := ⟨bit.toNat, by omega⟩
    have hkk : (m : Int).tmod (8 * (L : Int)) = ((m % (8 * L) : Nat) : Int) := by
      rw [Int.tmod_eq_emod_of_nonneg (by omega)]
      simp
    have hk : m % (8 * L) < 8 * L := Nat.mod_lt _ (by omega)
    obtain ⟨j, hj⟩ : ∃ j, j = m % (8 * L) / 8 := ⟨_, rfl⟩
    obtain ⟨q, hq⟩ : ∃ q, q = m % (8 * L) % 8 := ⟨_, rfl⟩
    generalize m % (8 * L) = z at *
    have hjl : j < fl.length := by have := HL.out; omega
    have hjz : (z : Int) / 8 = (j : Int) := by omega
    have hqz : (z : Int) % 8 = (q : Int) := by omega
    have hz2 : z < 2048 := by omega
    have hq8 : q < 8 := by omega
    obtain ⟨c, hc, hcne⟩ := turned_byte (fl[j]'hjl) q hq8
    have HT := Lib.hid (turned_no HO.out j hjl c hcne)
    have HY : Hid ((bcells fl)[j]? = some (.int .u8 ((fl[j]'hjl).toNat : Int))) := Lib.hid (bcells_get fl j hjl)
    have HJ : Hid (j < L) := Lib.hid (by rw [HL.out]; exact hjl)
    have hjL : (j : Int) < (L : Int) := by have := HJ.out; omega
    have hj0 : (0 : Int) ≤ (j : Int) := by omega
    have hbz := byte_lt (fl[j]'hjl)
    generalize (fl[j]'hjl).toNat = y at *
    have hneg' : decide ((m : Int) < 0) = false := decide_eq_false (by omega)
    clear hneg hcne hj hq hk
    go_enter Try.func3, Try.ntmps3
    go_wp2_with fail
    refine (first_any w).mono ?_
    rintro e w1 ⟨rfl, hb⟩
    have X1 := Lib.hid hb
    clear hb
    go_wp2_with fail
    refine (HK.out w1 X1).mono ?_
    rintro e w2 ⟨g, k, rfl, HR, X2⟩
    have HR2 := Lib.hid (own_base HR.out.1 X1.out.size)
    go_wp2_with fail
    refine (HKO.out w2 g k HR2 (Lib.hid HR.out.2.1)).mono ?_
    rintro e w3 ⟨a1, k1, rfl, HB3, X3⟩
    have X3' := Lib.hid (X2.out.trans (X3.out.mono X2.out.size))
    have R3 := Lib.hid (ownsRow_off HR2.out (Off.of_below (fun _ => False) X3.out) (fun _ _ f => f))
    go_wp2_with fail
    refine (alike_any _ _ l l w3 HB3.out (HV.out.on X3'.out)).mono ?_
    rintro e w4 ⟨rfl, rfl⟩
    rw [beq_self_eq_true]
    have hcell : w3.cell? ⟨g, j, none⟩ = some (.int .u8 (y : Int)) := (R3.out.cellAt j (by have := HJ.out; omega)).trans HY.out
    have hfr : w3.frozen? ⟨g, j, none⟩ = false := R3.out.frozenAt j
    have R5 : Hid ((w3.setCell ⟨g, j, none⟩ (.int .u8 (c.toNat : Int))).ownsRow w.heap.size 5 1 (.slice (some ⟨g, 0, none⟩) L k) L (bcells (fl.set j c))) := Lib.hid (own_stored R3.out j c)
    have X5 : Hid (Below w.heap.size w (w3.setCell ⟨g, j, none⟩ (.int .u8 (c.toNat : Int)))) := Lib.hid (X3'.out.setCell (Nat.le_trans X1.out.size HR.out.2.2) _)
    have hcap := HR.out.2.1
    clear R3
    go_wp2_with fail
    generalize w3.setCell ⟨g, j, none⟩ (.int .u8 (c.toNat : Int)) = w5 at *
    clear hcell hfr
    have hn5 : ∀ (v : Value), w5.ownsRow w.heap.size 5 1 (.slice (some ⟨g, 0, none⟩) L k) L (bcells (fl.set j c)) → Calls Try.prog 9 #[.slice (some ⟨g, 0, none⟩) L k] w5 (fun e w6 => ∃ bx : Nat, e = .returned (.tuple #[.int .i64 0, .slice none 0 0, .iface 50 (.pointer (some ⟨bx, 0, none⟩))]) ∧ Hid (Below w5.heap.size w5 w6)) := fun _ hr => by
      have e1 : L = (fl.set j c).length := by rw [List.length_set]; exact HL.out
      have := open_any (some ⟨g, 0, none⟩) k (fl.set j c) w5 (by rw [← e1]; exact bytesAt_own (by rw [← e1]; exact hr)) (by rw [← e1]; exact hcap) (by omega) (by omega)
      rw [← e1] at this
      refine this.mono ?_
      rintro e w6 ⟨_, hno⟩
      obtain ⟨v, rfl, hr, hb⟩ := hno HT.out
      obtain ⟨bx, rfl⟩ := hr.form
      exact ⟨bx, rfl, Lib.hid hb⟩
    refine (hn5 (.slice none 0 0) R5.out).mono ?_
    rintro e w6 ⟨bx, rfl, hb⟩
    have X6 := Lib.hid (X5.out.trans (hb.out.mono X5.out.size))
    clear hb hn5
    go_wp2_with fail
    refine (first_any w6).mono ?_
    rintro e w7 ⟨rfl, hb⟩
    have X7 := Lib.hid (X6.out.trans (hb.mono X6.out.size))
    clear hb
    go_wp2
    go_ret
    exact ⟨rfl, X7.out⟩

theorem back_any (addr : Int) (ao : Option Addr) (cap : Nat) (l : List UInt8) (bit : Int) (w : World) (hv : BytesAt w (.slice ao l.length cap) l) (hlen : l.length ≤ 9223372036854775807) : Calls Try.prog 3 #[.int .i64 addr, .slice ao l.length cap, .int .i64 bit] w (TrueIs w) := by
  by_cases h1 : 3000 < l.length
  · exact back_long addr bit ao l.length cap w hlen h1
  · by_cases h2 : frCode addr l.length = 0
    · obtain ⟨⟨ha0, ha1⟩, hl0, hl1⟩ := frCode_zero.1 h2
      obtain ⟨a, rfl⟩ : ∃ a : UInt8, addr = (a.toNat : Int) := ⟨UInt8.ofNat addr.toNat, by rw [UInt8.toNat_ofNat']; omega⟩
      exact back_in a bit ao cap l w hv hl0 hl1
    · exact back_no addr bit ao l.length cap w (by omega) h2
end Go.Proofs.Ythcehcfeedikkaa

