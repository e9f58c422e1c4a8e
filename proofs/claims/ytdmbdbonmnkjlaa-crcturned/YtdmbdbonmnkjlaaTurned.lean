/- yardlaw3.CrcTurned answers true for every row of bytes and every number; memory that was there stands. -/
import Derived.Test.YtdmbdbonmnkjlaaEnds
namespace Go.Proofs.Ytdmbdbonmnkjlaa
open Go.RowKit

/-- A byte stored into a row of one's own. -/
theorem own_stored {w : World} {base g n cap : Nat} {xs : List UInt8} (h : w.ownsRow base 5 1 (.slice (some ⟨g, 0, none⟩) n cap) n (bcells xs)) (i : Nat) (y : UInt8) :
    (w.setCell ⟨g, i, none⟩ (.int .u8 (y.toNat : Int))).ownsRow base 5 1 (.slice (some ⟨g, 0, none⟩) n cap) n (bcells (xs.set i y)) := by
  have := (h.stored i (.int .u8 (y.toNat : Int))).1
  rwa [show (bcells xs).set i (.int .u8 (y.toNat : Int)) = bcells (xs.set i y) by simp [bcells, List.map_set]] at this
theorem ownsRow_two {w : World} {B g cap n : Nat} {l : List UInt8} {x y : UInt8} (h : w.ownsRow B 5 1 (.slice (some ⟨g, 0, none⟩) n cap) n (bcells l ++ [.int .u8 (x.toNat : Int), .int .u8 (y.toNat : Int)])) (hn : l.length + 2 = n) : BytesAt w (.slice (some ⟨g, 0, none⟩) n cap) (l ++ [x, y]) := by
  subst hn
  have e : bcells l ++ [.int .u8 (x.toNat : Int), .int .u8 (y.toNat : Int)] = bcells (l ++ [x, y]) := by simp [bcells]
  rw [e] at h
  have hl : (l ++ [x, y]).length = l.length + 2 := by simp
  exact bytesAt_own (by rw [hl]; exact h)
theorem modN_behind (l : List UInt8) (x y : UInt8) (hx : x.toNat = modN l % 256) (hy : y.toNat = modN l / 256) : modN (l ++ [x, y]) = 0 :=
  runN_behind 40961 65535 l (by omega) (by omega) x y hx hy
theorem bytes_of (n : Nat) (hn : n < 65536) : ∃ x y : UInt8, x.toNat = n % 256 ∧ y.toNat = n / 256 :=
  ⟨UInt8.ofNat (n % 256), UInt8.ofNat (n / 256), by rw [UInt8.toNat_ofNat']; omega, by rw [UInt8.toNat_ofNat']; omega⟩

theorem bytesAt_own' {w : World} {base n : Nat} {v : Value} {l : List UInt8} (h : w.ownsRow base 5 1 v n (bcells l)) (hn : l.length = n) : BytesAt w v l := bytesAt_own (by rw [hn]; exact h)

set_option maxRecDepth 100000 in
set_option maxHeartbeats 2000000 in
/-- .. where there are no bytes. -/
theorem turned_none (ao : Option Addr) (cap : Nat) (l : List UInt8) (n : Int) (x y : UInt8) (w : World) (hv : BytesAt w (.slice ao l.length cap) l) (hl : l.length ≤ 20000) (hx : IntKind.u8.wrap ((modN l : Nat) : Int) = (x.toNat : Int)) (hy : IntKind.u8.wrap (((modN l : Nat) : Int) / 256) = (y.toNat : Int)) (h0 : modN (l ++ [x, y]) = 0) (hn : ((l.length : Int) == 0) = true) :
    Calls Try.prog 6 #[.slice ao l.length cap, .int .i64 n] w fun e w' => e = .returned (.bool true) ∧ Below w.heap.size w w' := by
  obtain ⟨i0, hi0, hz0, hz1, hz2⟩ := info_parts info5
  have HV := Lib.hid hv
  have HX : Hid (l.length ≤ maxLen ∧ (l ++ [x, y]).length ≤ maxLen) := Lib.hid (by unfold maxLen; simp; omega)
  have H0 := Lib.hid h0
  have hml := modN_lt l
  clear hv h0
  have hb1 : decide (20000 < (l.length : Int)) = false := by simp; omega
  go_enter Try.func6, Try.ntmps6
  go_wp2_with fail
  refine (first_any w).mono ?_
  rintro e w1 ⟨rfl, h⟩
  have HB1 := Lib.hid h
  clear h
  go_wp2_with fail
  refine (Modbus_any _ l w1 (HV.out.on HB1.out) HX.out.1).mono ?_
  rintro e w2 ⟨rfl, rfl⟩
  go_wp2_with fail
  refine (copy_any _ l w1 (HV.out.on HB1.out) (by omega)).mono ?_
  intro e w2 h
  obtain ⟨a2, c2, rfl, ho, _, h⟩ := copyIs_form h
  have HO2 := Lib.hid ho
  have HB2 := Lib.hid h
  clear h ho
  go_wp2_with (at_builtin; refine wpList_append_lies _ rfl _ _ 22 rfl w1.heap.size 5 i0 _ 1 1 Try.underlying22 hi0 hz0 hz1 hz2 rfl (by omega) _ l.length (bcells l) rfl (HO2.out.alloc _) ⟨w2.heap.size, 0, none⟩ 2 2 [.int .u8 (x.toNat : Int), .int .u8 (y.toNat : Int)] rfl rfl (World.news_of_block (cs := #[.int .u8 (x.toNat : Int), .int .u8 (y.toNat : Int)]) (heap_alloc_new w2 _)) (by simp [Value.oneCell']) (by omega) (by unfold maxLen; omega) (by omega) (by have := HB2.out.size; simp; omega) (w2.heap.size + 1) (by simp) ?_)
  intro g3 c3 w3 hown hgrow hat hlt
  have HC3 := Lib.hid (ownsRow_two hown rfl)
  have HB3 := Lib.hid (HB1.out.trans (((HB2.out.alloc HB2.out.size _).grown hgrow (by have := HB2.out.size; simp; omega) (fun j hj => (HO2.out.lt j hj).1)).mono HB1.out.size))
  clear hown hgrow hat hlt
  go_wp2_with fail
  refine (Modbus_any _ _ w3 HC3.out HX.out.2).mono ?_
  rintro e w4 ⟨rfl, rfl⟩
  rw [H0.out]
  go_wp2_with fail
  refine (first_any w3).mono ?_
  rintro e w5 ⟨rfl, h⟩
  have HB5 := Lib.hid (HB3.out.trans (h.mono HB3.out.size))
  clear h
  go_wp2
  go_ret
  exact ⟨rfl, HB5.out⟩

set_option maxRecDepth 100000 in
set_option maxHeartbeats 2000000 in
/-- .. where the number is negative. -/
theorem turned_neg (ao : Option Addr) (cap : Nat) (l : List UInt8) (n : Int) (x y : UInt8) (w : World) (hv : BytesAt w (.slice ao l.length cap) l) (hl : l.length ≤ 20000) (hx : IntKind.u8.wrap ((modN l : Nat) : Int) = (x.toNat : Int)) (hy : IntKind.u8.wrap (((modN l : Nat) : Int) / 256) = (y.toNat : Int)) (h0 : modN (l ++ [x, y]) = 0) (hn : ((l.length : Int) == 0) = false) (hneg : n < 0) :
    Calls Try.prog 6 #[.slice ao l.length cap, .int .i64 n] w fun e w' => e = .returned (.bool true) ∧ Below w.heap.size w w' := by
  obtain ⟨i0, hi0, hz0, hz1, hz2⟩ := info_parts info5
  have HV := Lib.hid hv
  have HX : Hid (l.length ≤ maxLen ∧ (l ++ [x, y]).length ≤ maxLen) := Lib.hid (by unfold maxLen; simp; omega)
  have H0 := Lib.hid h0
  have hml := modN_lt l
  clear hv h0
  have hb1 : decide (20000 < (l.length : Int)) = false := by simp; omega
  go_enter Try.func6, Try.ntmps6
  go_wp2_with fail
  refine (first_any w).mono ?_
  rintro e w1 ⟨rfl, h⟩
  have HB1 := Lib.hid h
  clear h
  go_wp2_with fail
  refine (Modbus_any _ l w1 (HV.out.on HB1.out) HX.out.1).mono ?_
  rintro e w2 ⟨rfl, rfl⟩
  go_wp2_with fail
  refine (copy_any _ l w1 (HV.out.on HB1.out) (by omega)).mono ?_
  intro e w2 h
  obtain ⟨a2, c2, rfl, ho, _, h⟩ := copyIs_form h
  have HO2 := Lib.hid ho
  have HB2 := Lib.hid h
  clear h ho
  go_wp2_with (at_builtin; refine wpList_append_lies _ rfl _ _ 22 rfl w1.heap.size 5 i0 _ 1 1 Try.underlying22 hi0 hz0 hz1 hz2 rfl (by omega) _ l.length (bcells l) rfl (HO2.out.alloc _) ⟨w2.heap.size, 0, none⟩ 2 2 [.int .u8 (x.toNat : Int), .int .u8 (y.toNat : Int)] rfl rfl (World.news_of_block (cs := #[.int .u8 (x.toNat : Int), .int .u8 (y.toNat : Int)]) (heap_alloc_new w2 _)) (by simp [Value.oneCell']) (by omega) (by unfold maxLen; omega) (by omega) (by have := HB2.out.size; simp; omega) (w2.heap.size + 1) (by simp) ?_)
  intro g3 c3 w3 hown hgrow hat hlt
  have HC3 := Lib.hid (ownsRow_two hown rfl)
  have HB3 := Lib.hid (HB1.out.trans (((HB2.out.alloc HB2.out.size _).grown hgrow (by have := HB2.out.size; simp; omega) (fun j hj => (HO2.out.lt j hj).1)).mono HB1.out.size))
  clear hown hgrow hat hlt
  go_wp2_with fail
  refine (Modbus_any _ _ w3 HC3.out HX.out.2).mono ?_
  rintro e w4 ⟨rfl, rfl⟩
  rw [H0.out]
  go_wp2_with fail
  refine (first_any w3).mono ?_
  rintro e w5 ⟨rfl, h⟩
  have HB5 := Lib.hid (HB3.out.trans (h.mono HB3.out.size))
  clear h
  go_wp2
  go_ret
  exact ⟨rfl, HB5.out⟩

set_option maxRecDepth 100000 in
set_option maxHeartbeats 2000000 in
/-- .. where a bit is turned. -/
theorem turned_some (ao : Option Addr) (cap : Nat) (l : List UInt8) (n k j q z : Nat) (x y c : UInt8) (m1 d1 d0 : Nat) (w : World) (hv : BytesAt w (.slice ao l.length cap) l) (hl : l.length ≤ 20000) (hx : IntKind.u8.wrap ((modN l : Nat) : Int) = (x.toNat : Int)) (hy : IntKind.u8.wrap (((modN l : Nat) : Int) / 256) = (y.toNat : Int)) (h0 : modN (l ++ [x, y]) = 0) (hn : ((l.length : Int) == 0) = false)
    (hk : (n : Int).tmod (8 * (l.length : Int)) = (k : Int)) (hk2 : k < 160000) (hj : (k : Int) / 8 = (j : Int)) (hjl : j < l.length) (hq : (k : Int) % 8 = (q : Int)) (_hq8 : q < 8) (hz : (l[j]'hjl).toNat = z) (hc : bits .xor .u8 (z : Int) ((2 : Int) ^ q % 256) = (c.toNat : Int))
    (hm1 : modN (l.set j c) = m1) (hd1 : dnpN (l.set j c) = d1) (hd0 : dnpN l = d0) (nm : ((m1 : Int) != ((modN l : Nat) : Int)) = true) (nd : ((d1 : Int) != (d0 : Int)) = true) :
    Calls Try.prog 6 #[.slice ao l.length cap, .int .i64 (n : Int)] w fun e w' => e = .returned (.bool true) ∧ Below w.heap.size w w' := by
  obtain ⟨i0, hi0, hz0, hz1, hz2⟩ := info_parts info5
  have HV := Lib.hid hv
  have HX : Hid (l.length ≤ maxLen ∧ (l ++ [x, y]).length ≤ maxLen) := Lib.hid (by unfold maxLen; simp; omega)
  have H0 := Lib.hid h0
  have hml := modN_lt l
  clear hv h0
  have hb1 : decide (20000 < (l.length : Int)) = false := by simp; omega
  have HL : Hid ((l.set j c).length ≤ maxLen) := Lib.hid (by unfold maxLen; simp; omega)
  have HM := Lib.hid (And.intro hm1 (And.intro hd1 hd0))
  clear hm1 hd1 hd0
  go_enter Try.func6, Try.ntmps6
  go_wp2_with fail
  refine (first_any w).mono ?_
  rintro e w1 ⟨rfl, h⟩
  have HB1 := Lib.hid h
  clear h
  go_wp2_with fail
  refine (Modbus_any _ l w1 (HV.out.on HB1.out) HX.out.1).mono ?_
  rintro e w2 ⟨rfl, rfl⟩
  go_wp2_with fail
  refine (copy_any _ l w1 (HV.out.on HB1.out) (by omega)).mono ?_
  intro e w2 h
  obtain ⟨a2, c2, rfl, ho, _, h⟩ := copyIs_form h
  have HO2 := Lib.hid ho
  have HB2 := Lib.hid h
  clear h ho
  go_wp2_with (at_builtin; refine wpList_append_lies _ rfl _ _ 22 rfl w1.heap.size 5 i0 _ 1 1 Try.underlying22 hi0 hz0 hz1 hz2 rfl (by omega) _ l.length (bcells l) rfl (HO2.out.alloc _) ⟨w2.heap.size, 0, none⟩ 2 2 [.int .u8 (x.toNat : Int), .int .u8 (y.toNat : Int)] rfl rfl (World.news_of_block (cs := #[.int .u8 (x.toNat : Int), .int .u8 (y.toNat : Int)]) (heap_alloc_new w2 _)) (by simp [Value.oneCell']) (by omega) (by unfold maxLen; omega) (by omega) (by have := HB2.out.size; simp; omega) (w2.heap.size + 1) (by simp) ?_)
  intro g3 c3 w3 hown hgrow hat hlt
  have HC3 := Lib.hid (ownsRow_two hown rfl)
  have HB3 := Lib.hid (HB1.out.trans (((HB2.out.alloc HB2.out.size _).grown hgrow (by have := HB2.out.size; simp; omega) (fun j hj => (HO2.out.lt j hj).1)).mono HB1.out.size))
  clear hown hgrow hat hlt
  go_wp2_with fail
  refine (Modbus_any _ _ w3 HC3.out HX.out.2).mono ?_
  rintro e w4 ⟨rfl, rfl⟩
  rw [H0.out]
  go_wp2_with fail
  refine (copy_any _ l w3 (HV.out.on HB3.out) (by omega)).mono ?_
  intro e w4 h'
  obtain ⟨a4, c4, rfl, ho, _, h⟩ := copyIs_form h'
  clear h'
  obtain ⟨g4, c5, e4, hg4, _⟩ := ho.form (show 0 < l.length by omega)
  simp only [Value.slice.injEq, true_and] at e4
  obtain ⟨rfl, rfl⟩ := e4
  have hcell : w4.cell? ⟨g4, j, none⟩ = some (.int .u8 (z : Int)) := by
    rw [← hz]
    exact (ho.cellAt j (by omega)).trans (bcells_get l j hjl)
  have hfr : w4.frozen? ⟨g4, j, none⟩ = false := ho.frozenAt j
  have HO4 : Hid (BytesAt (w4.setCell ⟨g4, j, none⟩ (.int .u8 (c.toNat : Int))) (.slice (some ⟨g4, 0, none⟩) l.length c4) (l.set j c)) := Lib.hid (bytesAt_own' (own_stored ho j c) (by simp))
  have HB4 : Hid (Below w.heap.size w (w4.setCell ⟨g4, j, none⟩ (.int .u8 (c.toNat : Int)))) := Lib.hid ((HB3.out.trans (h.mono HB3.out.size)).setCell (Nat.le_trans HB3.out.size hg4) _)
  clear h ho hz
  go_wp2_with fail
  generalize w4.setCell ⟨g4, j, none⟩ (.int .u8 (c.toNat : Int)) = w5 at *
  refine (first_any w5).mono ?_
  rintro e w6 ⟨rfl, h⟩
  have HO6 := Lib.hid (HO4.out.on h)
  have HB6 := Lib.hid (HB4.out.trans (h.mono HB4.out.size))
  have HV6 := Lib.hid (HV.out.on HB6.out)
  clear h
  go_wp2_with fail
  refine (Modbus_any _ _ w6 HO6.out HL.out).mono ?_
  rintro e w7 ⟨rfl, rfl⟩
  rw [HM.out.1]
  go_wp2_with fail
  refine (Dnp_any _ _ w6 HO6.out HL.out).mono ?_
  rintro e w7 ⟨rfl, rfl⟩
  rw [HM.out.2.1]
  go_wp2_with fail
  refine (Dnp_any _ _ w6 HV6.out HX.out.1).mono ?_
  rintro e w7 ⟨rfl, rfl⟩
  rw [HM.out.2.2]
  go_wp2
  go_ret
  exact ⟨rfl, HB6.out⟩

set_option maxRecDepth 100000 in
theorem turned_long (ao : Option Addr) (cap : Nat) (l : List UInt8) (n : Int) (w : World) (hm : l.length ≤ maxLen) (h1 : 20000 < l.length) : Calls Try.prog 6 #[.slice ao l.length cap, .int .i64 n] w fun e w' => e = .returned (.bool true) ∧ Below w.heap.size w w' := by
  unfold maxLen at hm
  go_enter Try.func6, Try.ntmps6
  go_wp2_with fail
  refine (first_any w).mono ?_
  rintro e w1 ⟨rfl, h⟩
  have HB1 := Lib.hid h
  clear h
  go_wp2_with fail
  refine (first_any w1).mono ?_
  rintro e w2 ⟨rfl, h⟩
  have HB2 := Lib.hid (HB1.out.trans (h.mono HB1.out.size))
  clear h
  go_wp2
  go_ret
  exact ⟨rfl, HB2.out⟩

theorem pow_lt8 (q : Nat) (h : q < 8) : 0 < 2 ^ q ∧ 2 ^ q < 256 := by
  have : q = 0 ∨ q = 1 ∨ q = 2 ∨ q = 3 ∨ q = 4 ∨ q = 5 ∨ q = 6 ∨ q = 7 := by omega
  rcases this with rfl | rfl | rfl | rfl | rfl | rfl | rfl | rfl <;> decide
theorem turned_byte (z : UInt8) (q : Nat) (hq : q < 8) : ∃ c : UInt8, bits .xor .u8 (z.toNat : Int) ((2 : Int) ^ q % 256) = (c.toNat : Int) ∧ c ≠ z := by
  have hp := pow_lt8 q hq
  have e : (2 : Int) ^ q % 256 = ((2 ^ q : Nat) : Int) := by
    have h2 : ((2 ^ q : Nat) : Int) = (2 : Int) ^ q := by simp
    rw [← h2]
    omega
  have hx : z.toNat ^^^ 2 ^ q < 256 := Nat.xor_lt_two_pow (n := 8) (byte_lt z) hp.2
  have hc : (UInt8.ofNat (z.toNat ^^^ 2 ^ q)).toNat = z.toNat ^^^ 2 ^ q := by rw [UInt8.toNat_ofNat']; omega
  refine ⟨UInt8.ofNat (z.toNat ^^^ 2 ^ q), ?_, fun h => ?_⟩
  · rw [e, u8_xor_nat _ _ (byte_lt z) hp.2, hc]
  · have h1 := congrArg UInt8.toNat h
    rw [hc] at h1
    have h3 : z.toNat ^^^ 2 ^ q = z.toNat ^^^ 0 := by rw [h1, Nat.xor_zero]
    have := xor_cancel h3
    omega
theorem modN_set (l : List UInt8) (k : Nat) (hk : k < l.length) (y : UInt8) (hy : y ≠ l[k]) : modN (l.set k y) ≠ modN l := runN_set 40961 (by omega) (by omega) 65535 (by omega) l k hk y hy
theorem dnpN_set (l : List UInt8) (k : Nat) (hk : k < l.length) (y : UInt8) (hy : y ≠ l[k]) : dnpN (l.set k y) ≠ dnpN l := fun e => by
  unfold dnpN at e
  rw [Nat.xor_comm _ 65535, Nat.xor_comm _ 65535] at e
  exact runN_set 42684 (by omega) (by omega) 0 (by omega) l k hk y hy (xor_cancel e)

theorem turned_any (ao : Option Addr) (cap : Nat) (l : List UInt8) (n : Int) (w : World) (hv : BytesAt w (.slice ao l.length cap) l) (hm : l.length ≤ maxLen) : Calls Try.prog 6 #[.slice ao l.length cap, .int .i64 n] w fun e w' => e = .returned (.bool true) ∧ Below w.heap.size w w' := by
  by_cases h1 : 20000 < l.length
  · exact turned_long ao cap l n w hm h1
  have hl : l.length ≤ 20000 := by omega
  have hml := modN_lt l
  obtain ⟨x, y, ex, ey⟩ := bytes_of (modN l) hml
  have hx : IntKind.u8.wrap ((modN l : Nat) : Int) = (x.toNat : Int) := by rw [IntKind.wrap_u8', ex]; omega
  have hy : IntKind.u8.wrap (((modN l : Nat) : Int) / 256) = (y.toNat : Int) := by rw [IntKind.wrap_u8', ey]; omega
  have h0 := modN_behind l x y ex ey
  by_cases h2 : l.length = 0
  · exact turned_none ao cap l n x y w hv hl hx hy h0 (beq_iff_eq.2 (by omega))
  have hn : ((l.length : Int) == 0) = false := beq_eq_false_iff_ne.2 (by omega)
  by_cases h3 : n < 0
  · exact turned_neg ao cap l n x y w hv hl hx hy h0 hn h3
  obtain ⟨m, rfl⟩ : ∃ m : Nat, n = (m : Int) := ⟨n.toNat, by omega⟩
  have hpos : 0 < 8 * l.length := by omega
  have hk : m % (8 * l.length) < 8 * l.length := Nat.mod_lt _ hpos
  have hkk : (m : Int).tmod (8 * (l.length : Int)) = ((m % (8 * l.length) : Nat) : Int) := by
    rw [Int.tmod_eq_emod_of_nonneg (by omega)]
    simp
  obtain ⟨c, hc, hne⟩ := turned_byte (l[m % (8 * l.length) / 8]'(by omega)) (m % (8 * l.length) % 8) (Nat.mod_lt _ (by omega))
  exact turned_some ao cap l m (m % (8 * l.length)) (m % (8 * l.length) / 8) (m % (8 * l.length) % 8) _ x y c _ _ _ w hv hl hx hy h0 hn hkk (by omega) (by omega) (by omega) (by omega) (Nat.mod_lt _ (by omega)) rfl hc rfl rfl rfl (ne_int (modN_set l _ _ c hne)) (ne_int (dnpN_set l _ _ c hne))
end Go.Proofs.Ytdmbdbonmnkjlaa
