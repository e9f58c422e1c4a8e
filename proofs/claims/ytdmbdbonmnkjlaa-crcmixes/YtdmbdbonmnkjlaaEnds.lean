/- yardlaw3.CrcEnds answers true for every row of bytes and every two bytes; memory that was there stands. -/
import Derived.Test.YtdmbdbonmnkjlaaGoes
namespace Go.Proofs.Ytdmbdbonmnkjlaa
open Go.RowKit

theorem ownsRow_bytes {w : World} {B g cap n : Nat} {l : List UInt8} {x : UInt8} (h : w.ownsRow B 5 1 (.slice (some ⟨g, 0, none⟩) n cap) n (bcells l ++ [.int .u8 (x.toNat : Int)])) (hn : l.length + 1 = n) : BytesAt w (.slice (some ⟨g, 0, none⟩) n cap) (l ++ [x]) := by
  subst hn
  have e : bcells l ++ [.int .u8 (x.toNat : Int)] = bcells (l ++ [x]) := by simp [bcells]
  rw [e] at h
  have hl : (l ++ [x]).length = l.length + 1 := by simp
  exact bytesAt_own (by rw [hl]; exact h)
theorem ownsRow_ahead {w : World} {B n : Nat} {v : Value} {l : List UInt8} {x : UInt8} (h : w.ownsRow B 5 1 v n ([.int .u8 (x.toNat : Int)] ++ bcells l)) (hn : 1 + l.length = n) : BytesAt w v (x :: l) := by
  subst hn
  have e : [.int .u8 (x.toNat : Int)] ++ bcells l = bcells (x :: l) := by simp [bcells]
  rw [e] at h
  have hl : (x :: l).length = 1 + l.length := by simp; omega
  exact bytesAt_own (by rw [hl]; exact h)
theorem bytes_one (w : World) (x : UInt8) : BytesAt (w.alloc (.cells #[.int .u8 (x.toNat : Int)] 5)) (.slice (some ⟨w.heap.size, 0, none⟩) 1 1) [x] := by
  refine ⟨some ⟨w.heap.size, 0, none⟩, 1, rfl, fun i hi => ⟨w.heap.size, 0, rfl, ?_⟩⟩
  have h0 : i = 0 := by simpa using hi
  subst h0
  exact cell_marked _ _ _ _ _ rfl
theorem row_one (w : World) (x : UInt8) : (w.alloc (.cells #[.int .u8 (x.toNat : Int)] 5)).ownsRow w.heap.size 5 1 (.slice (some ⟨w.heap.size, 0, none⟩) 1 1) 1 [.int .u8 (x.toNat : Int)] :=
  ⟨rfl, .inr ⟨w.heap.size, 1, #[.int .u8 (x.toNat : Int)], rfl, Nat.le_refl _, heap_alloc_new w _, Nat.le_refl _, by unfold maxLen; omega, rfl, rfl⟩⟩
theorem append_one_nil (W : World) (g c : Nat) : (Builtin.append_ #[22, 22] 22 #[.slice (some ⟨g, 0, none⟩) 1 1, .slice none 0 c]).run Try.prog W = .ok (.slice (some ⟨g, 0, none⟩) 1 1) W := by
  obtain ⟨i0, hi0, _, _, _⟩ := info_parts info5
  simp [Builtin.append_, run_underlying Try.underlying22, sizeOf, typeInfo, hi0, Builtin.lenOf, Builtin.firstCells, storeCells]
theorem row_form {w : World} {base e n : Nat} {v : Value} {xs : List Value} (h : w.ownsRow base e 1 v n xs) : ∃ a c, v = .slice a n c := by
  rcases h.2 with ⟨hv, h0⟩ | ⟨g, cap, cur, hv, _⟩
  · exact ⟨none, 0, by rw [hv, h0]⟩
  · exact ⟨_, _, hv⟩
theorem ne_int {a b : Nat} (h : a ≠ b) : ((a : Int) != (b : Int)) = true := by rw [bne_iff_ne]; omega

theorem bytesAt_news {w : World} {a : Addr} {n c : Nat} {l : List UInt8} (h : BytesAt w (.slice (some a) n c) l) : ∀ j u, (bcells l)[j]? = some u → w.cell? (a.add j) = some u := by
  obtain ⟨ao, cap, e, hc⟩ := h
  simp only [Value.slice.injEq] at e
  obtain ⟨rfl, _, _⟩ := e
  exact bytes_news hc

set_option maxRecDepth 100000 in
set_option maxHeartbeats 2000000 in
theorem ends_some (ad : Addr) (cap : Nat) (l : List UInt8) (x y : UInt8) (m1 m2 m3 m4 d1 d2 d3 d4 : Nat) (w : World) (hv : BytesAt w (.slice (some ad) l.length cap) l) (hl : l.length ≤ 20000) (hxy : ((x.toNat : Int) == (y.toNat : Int)) = false)
    (hm1 : modN (l ++ [x]) = m1) (hm2 : modN (l ++ [y]) = m2) (hm3 : modN (x :: l) = m3) (hm4 : modN (y :: l) = m4) (hd1 : dnpN (l ++ [x]) = d1) (hd2 : dnpN (l ++ [y]) = d2) (hd3 : dnpN (x :: l) = d3) (hd4 : dnpN (y :: l) = d4)
    (nm1 : ((m1 : Int) != (m2 : Int)) = true) (nm3 : ((m3 : Int) != (m4 : Int)) = true) (nd1 : ((d1 : Int) != (d2 : Int)) = true) (nd3 : ((d3 : Int) != (d4 : Int)) = true) (hst : stepN (lo 40961) (lo ((modN l : Nat) : Int)) x.toNat = m1) :
    Calls Try.prog 10 #[.slice (some ad) l.length cap, .int .u8 (x.toNat : Int), .int .u8 (y.toNat : Int)] w fun e w' => e = .returned (.bool true) ∧ Below w.heap.size w w' := by
  obtain ⟨i0, hi0, hz0, hz1, hz2⟩ := info_parts info5
  have HV := Lib.hid hv
  have HX : Hid (l.length ≤ maxLen ∧ (l ++ [x]).length ≤ maxLen ∧ (l ++ [y]).length ≤ maxLen ∧ (x :: l).length ≤ maxLen ∧ (y :: l).length ≤ maxLen) := Lib.hid (by unfold maxLen; simp; omega)
  have HM := Lib.hid (And.intro (And.intro hm1 hm2) (And.intro hm3 hm4))
  have HD := Lib.hid (And.intro (And.intro hd1 hd2) (And.intro hd3 hd4))
  have HS := Lib.hid hst
  have hxl := byte_lt x
  clear hv hm1 hm2 hm3 hm4 hd1 hd2 hd3 hd4 hst
  have hb1 : decide (20000 < (l.length : Int)) = false := by simp; omega
  go_enter Try.func10, Try.ntmps10
  go_wp2_with fail
  refine (first_any w).mono ?_
  rintro e w1 ⟨rfl, h⟩
  have HB1 := Lib.hid h
  clear h
  go_wp2_with fail
  refine (copy_any _ l w1 (HV.out.on HB1.out) (by omega)).mono ?_
  intro e w2 h
  obtain ⟨a2, c2, rfl, ho, _, h⟩ := copyIs_form h
  have HO2 := Lib.hid ho
  have HB2 := Lib.hid h
  clear h ho
  go_wp2_with (at_builtin; refine wpList_append_lies _ rfl _ _ 22 rfl w1.heap.size 5 i0 _ 1 1 Try.underlying22 hi0 hz0 hz1 hz2 rfl (by omega) _ l.length (bcells l) rfl (HO2.out.alloc _) ⟨w2.heap.size, 0, none⟩ 1 1 [.int .u8 (x.toNat : Int)] rfl rfl (World.news_of_block (cs := #[.int .u8 (x.toNat : Int)]) (heap_alloc_new w2 _)) (by simp [Value.oneCell']) (by omega) (by unfold maxLen; omega) (by omega) (by have := HB2.out.size; simp; omega) (w2.heap.size + 1) (by simp) ?_)
  intro g3 c3 w3 hown hgrow hat hlt
  have HC3 := Lib.hid (ownsRow_bytes hown rfl)
  have HB3 := Lib.hid (HB1.out.trans (((HB2.out.alloc HB2.out.size _).grown hgrow (by have := HB2.out.size; simp; omega) (fun j hj => (HO2.out.lt j hj).1)).mono HB1.out.size))
  clear hown hgrow hat hlt
  go_wp2_with fail
  refine (copy_any _ l w3 (HV.out.on HB3.out) (by omega)).mono ?_
  intro e w4 h
  obtain ⟨a4, c4, rfl, ho, _, h⟩ := copyIs_form h
  have HO4 := Lib.hid ho
  have HB4 := Lib.hid h
  clear h ho
  go_wp2_with (at_builtin; refine wpList_append_lies _ rfl _ _ 22 rfl w3.heap.size 5 i0 _ 1 1 Try.underlying22 hi0 hz0 hz1 hz2 rfl (by omega) _ l.length (bcells l) rfl (HO4.out.alloc _) ⟨w4.heap.size, 0, none⟩ 1 1 [.int .u8 (y.toNat : Int)] rfl rfl (World.news_of_block (cs := #[.int .u8 (y.toNat : Int)]) (heap_alloc_new w4 _)) (by simp [Value.oneCell']) (by omega) (by unfold maxLen; omega) (by omega) (by have := HB4.out.size; simp; omega) (w4.heap.size + 1) (by simp) ?_)
  intro g5 c5 w5 hown hgrow hat hlt
  have HD5 := Lib.hid (ownsRow_bytes hown rfl)
  have HS5 := Lib.hid ((HB4.out.alloc HB4.out.size _).grown hgrow (by have := HB4.out.size; simp; omega) (fun j hj => (HO4.out.lt j hj).1))
  have HC5 := Lib.hid (HC3.out.on HS5.out)
  have HB5 := Lib.hid (HB3.out.trans (HS5.out.mono HB3.out.size))
  clear hown hgrow hat hlt
  have hn5 : Hid (∀ j u, (bcells l)[j]? = some u → (w5.alloc (.cells #[.int .u8 (x.toNat : Int)] 5)).cell? (ad.add j) = some u) := Lib.hid (bytesAt_news ((HV.out.on HB5.out).on (below_new _ _)))
  go_wp2_with (at_builtin; refine wpList_append_own_at _ rfl _ _ 22 rfl w5.heap.size 5 i0 _ 1 1 Try.underlying22 hi0 hz0 hz1 hz2 rfl (by omega) _ 1 [.int .u8 (x.toNat : Int)] rfl (row_one w5 x) ad l.length cap (bcells l) rfl ?qc1 hn5.out (bcells_one l) ?qc4 ?qc5 ?qc6 ?_)
  case qc1 => rw [bcells_length]; omega
  case qc4 => unfold maxLen; omega
  case qc5 => omega
  case qc6 => simp
  intro v6 w6 hown hgrow hnil hat
  obtain ⟨a6, c6, rfl⟩ := row_form hown
  have HE6 := Lib.hid (ownsRow_ahead hown rfl)
  have HS6 := Lib.hid ((below_new w5 _).grown hgrow (by simp) (fun j hj => (row_one w5 x).lt j hj |>.1))
  clear hown hgrow hnil hat
  have HC6 := Lib.hid (HC5.out.on HS6.out)
  have HD6 := Lib.hid (HD5.out.on HS6.out)
  have HB6 := Lib.hid (HB5.out.trans (HS6.out.mono HB5.out.size))
  have hn6 : Hid (∀ j u, (bcells l)[j]? = some u → (w6.alloc (.cells #[.int .u8 (y.toNat : Int)] 5)).cell? (ad.add j) = some u) := Lib.hid (bytesAt_news ((HV.out.on HB6.out).on (below_new _ _)))
  go_wp2_with (at_builtin; refine wpList_append_own_at _ rfl _ _ 22 rfl w6.heap.size 5 i0 _ 1 1 Try.underlying22 hi0 hz0 hz1 hz2 rfl (by omega) _ 1 [.int .u8 (y.toNat : Int)] rfl (row_one w6 y) ad l.length cap (bcells l) rfl ?qc1 hn6.out (bcells_one l) ?qc4 ?qc5 ?qc6 ?_)
  case qc1 => rw [bcells_length]; omega
  case qc4 => unfold maxLen; omega
  case qc5 => omega
  case qc6 => simp
  intro v7 w7 hown hgrow hnil hat
  obtain ⟨a7, c7, rfl⟩ := row_form hown
  have HE7 := Lib.hid (ownsRow_ahead hown rfl)
  have HS7 := Lib.hid ((below_new w6 _).grown hgrow (by simp) (fun j hj => (row_one w6 y).lt j hj |>.1))
  clear hown hgrow hnil hat
  have HC7 := Lib.hid (HC6.out.on HS7.out)
  have HD7 := Lib.hid (HD6.out.on HS7.out)
  have HX7 := Lib.hid (HE6.out.on HS7.out)
  have HY7 := HE7
  have HB7 := Lib.hid (HB6.out.trans (HS7.out.mono HB6.out.size))
  go_wp2_with fail
  refine (first_any w7).mono ?_
  rintro e w8 ⟨rfl, h⟩
  have HC8 := Lib.hid (HC7.out.on h)
  have HD8 := Lib.hid (HD7.out.on h)
  have HX8 := Lib.hid (HX7.out.on h)
  have HY8 := Lib.hid (HY7.out.on h)
  have HB8 := Lib.hid (HB7.out.trans (h.mono HB7.out.size))
  have HV8 := Lib.hid (HV.out.on HB8.out)
  clear h
  go_wp2_with fail
  refine (Modbus_any _ _ w8 HC8.out HX.out.2.1).mono ?_
  rintro e w9 ⟨rfl, rfl⟩
  rw [HM.out.1.1]
  go_wp2_with fail
  refine (Modbus_any _ _ w8 HD8.out HX.out.2.2.1).mono ?_
  rintro e w9 ⟨rfl, rfl⟩
  rw [HM.out.1.2]
  go_wp2_with fail
  refine (Dnp_any _ _ w8 HC8.out HX.out.2.1).mono ?_
  rintro e w9 ⟨rfl, rfl⟩
  rw [HD.out.1.1]
  go_wp2_with fail
  refine (Dnp_any _ _ w8 HD8.out HX.out.2.2.1).mono ?_
  rintro e w9 ⟨rfl, rfl⟩
  rw [HD.out.1.2]
  go_wp2_with fail
  refine (Modbus_any _ _ w8 HX8.out HX.out.2.2.2.1).mono ?_
  rintro e w9 ⟨rfl, rfl⟩
  rw [HM.out.2.1]
  go_wp2_with fail
  refine (Modbus_any _ _ w8 HY8.out HX.out.2.2.2.2).mono ?_
  rintro e w9 ⟨rfl, rfl⟩
  rw [HM.out.2.2]
  go_wp2_with fail
  refine (Dnp_any _ _ w8 HX8.out HX.out.2.2.2.1).mono ?_
  rintro e w9 ⟨rfl, rfl⟩
  rw [HD.out.2.1]
  go_wp2_with fail
  refine (Dnp_any _ _ w8 HY8.out HX.out.2.2.2.2).mono ?_
  rintro e w9 ⟨rfl, rfl⟩
  rw [HD.out.2.2]
  go_wp2_with fail
  refine (Modbus_any _ _ w8 HC8.out HX.out.2.1).mono ?_
  rintro e w9 ⟨rfl, rfl⟩
  rw [HM.out.1.1]
  go_wp2_with fail
  refine (Modbus_any _ _ w8 HV8.out HX.out.1).mono ?_
  rintro e w9 ⟨rfl, rfl⟩
  go_wp2_with fail
  refine (Step_any _ _ x.toNat w8 hxl).mono ?_
  rintro e w9 ⟨rfl, rfl⟩
  rw [HS.out]
  go_wp2
  go_ret
  exact ⟨rfl, HB8.out⟩

set_option maxRecDepth 100000 in
set_option maxHeartbeats 2000000 in
theorem ends_nil (cap : Nat) (x y : UInt8) (m1 m2 m3 m4 d1 d2 d3 d4 : Nat) (w : World) (hv : BytesAt w (.slice none 0 cap) ([] : List UInt8)) (hxy : ((x.toNat : Int) == (y.toNat : Int)) = false)
    (hm1 : modN (([] : List UInt8) ++ [x]) = m1) (hm2 : modN (([] : List UInt8) ++ [y]) = m2) (hm3 : modN (x :: ([] : List UInt8)) = m3) (hm4 : modN (y :: ([] : List UInt8)) = m4) (hd1 : dnpN (([] : List UInt8) ++ [x]) = d1) (hd2 : dnpN (([] : List UInt8) ++ [y]) = d2) (hd3 : dnpN (x :: ([] : List UInt8)) = d3) (hd4 : dnpN (y :: ([] : List UInt8)) = d4)
    (nm1 : ((m1 : Int) != (m2 : Int)) = true) (nm3 : ((m3 : Int) != (m4 : Int)) = true) (nd1 : ((d1 : Int) != (d2 : Int)) = true) (nd3 : ((d3 : Int) != (d4 : Int)) = true) (hst : stepN (lo 40961) (lo ((modN ([] : List UInt8) : Nat) : Int)) x.toNat = m1) :
    Calls Try.prog 10 #[.slice none 0 cap, .int .u8 (x.toNat : Int), .int .u8 (y.toNat : Int)] w fun e w' => e = .returned (.bool true) ∧ Below w.heap.size w w' := by
  obtain ⟨i0, hi0, hz0, hz1, hz2⟩ := info_parts info5
  have HV := Lib.hid hv
  have HX : Hid (([] : List UInt8).length ≤ maxLen ∧ (([] : List UInt8) ++ [x]).length ≤ maxLen ∧ (([] : List UInt8) ++ [y]).length ≤ maxLen ∧ (x :: ([] : List UInt8)).length ≤ maxLen ∧ (y :: ([] : List UInt8)).length ≤ maxLen) := Lib.hid (by unfold maxLen; simp)
  have HM := Lib.hid (And.intro (And.intro hm1 hm2) (And.intro hm3 hm4))
  have HD := Lib.hid (And.intro (And.intro hd1 hd2) (And.intro hd3 hd4))
  have HS := Lib.hid hst
  have hxl := byte_lt x
  clear hv hm1 hm2 hm3 hm4 hd1 hd2 hd3 hd4 hst
  have apn := append_one_nil
  go_enter Try.func10, Try.ntmps10
  go_wp2_with fail
  refine (first_any w).mono ?_
  rintro e w1 ⟨rfl, h⟩
  have HB1 := Lib.hid h
  clear h
  go_wp2_with fail
  refine (copy_any _ ([] : List UInt8) w1 (HV.out.on HB1.out) (by simp)).mono ?_
  intro e w2 h
  obtain ⟨a2, c2, rfl, ho, _, h⟩ := copyIs_form h
  have HO2 := Lib.hid ho
  have HB2 := Lib.hid h
  clear h ho
  go_wp2_with (at_builtin; refine wpList_append_lies _ rfl _ _ 22 rfl w1.heap.size 5 i0 _ 1 1 Try.underlying22 hi0 hz0 hz1 hz2 rfl (by omega) _ 0 (bcells ([] : List UInt8)) rfl (HO2.out.alloc _) ⟨w2.heap.size, 0, none⟩ 1 1 [.int .u8 (x.toNat : Int)] rfl rfl (World.news_of_block (cs := #[.int .u8 (x.toNat : Int)]) (heap_alloc_new w2 _)) (by simp [Value.oneCell']) (by omega) (by unfold maxLen; omega) (by omega) (by have := HB2.out.size; simp; omega) (w2.heap.size + 1) (by simp) ?_)
  intro g3 c3 w3 hown hgrow hat hlt
  have HC3 := Lib.hid (ownsRow_bytes hown rfl)
  have HB3 := Lib.hid (HB1.out.trans (((HB2.out.alloc HB2.out.size _).grown hgrow (by have := HB2.out.size; simp; omega) (fun j hj => (HO2.out.lt j hj).1)).mono HB1.out.size))
  clear hown hgrow hat hlt
  go_wp2_with fail
  refine (copy_any _ ([] : List UInt8) w3 (HV.out.on HB3.out) (by simp)).mono ?_
  intro e w4 h
  obtain ⟨a4, c4, rfl, ho, _, h⟩ := copyIs_form h
  have HO4 := Lib.hid ho
  have HB4 := Lib.hid h
  clear h ho
  go_wp2_with (at_builtin; refine wpList_append_lies _ rfl _ _ 22 rfl w3.heap.size 5 i0 _ 1 1 Try.underlying22 hi0 hz0 hz1 hz2 rfl (by omega) _ 0 (bcells ([] : List UInt8)) rfl (HO4.out.alloc _) ⟨w4.heap.size, 0, none⟩ 1 1 [.int .u8 (y.toNat : Int)] rfl rfl (World.news_of_block (cs := #[.int .u8 (y.toNat : Int)]) (heap_alloc_new w4 _)) (by simp [Value.oneCell']) (by omega) (by unfold maxLen; omega) (by omega) (by have := HB4.out.size; simp; omega) (w4.heap.size + 1) (by simp) ?_)
  intro g5 c5 w5 hown hgrow hat hlt
  have HD5 := Lib.hid (ownsRow_bytes hown rfl)
  have HS5 := Lib.hid ((HB4.out.alloc HB4.out.size _).grown hgrow (by have := HB4.out.size; simp; omega) (fun j hj => (HO4.out.lt j hj).1))
  have HC5 := Lib.hid (HC3.out.on HS5.out)
  have HB5 := Lib.hid (HB3.out.trans (HS5.out.mono HB3.out.size))
  clear hown hgrow hat hlt
  have HS6 : Hid (Below w5.heap.size w5 ((w5.alloc (.cells #[.int .u8 (x.toNat : Int)] 5)).alloc (.cells #[.int .u8 (y.toNat : Int)] 5))) := Lib.hid ((below_new w5 _).alloc (by simp) _)
  have HX7 : Hid (BytesAt ((w5.alloc (.cells #[.int .u8 (x.toNat : Int)] 5)).alloc (.cells #[.int .u8 (y.toNat : Int)] 5)) (.slice (some ⟨w5.heap.size, 0, none⟩) 1 1) [x]) := Lib.hid ((bytes_one w5 x).on (below_new _ _))
  have HY7 : Hid (BytesAt ((w5.alloc (.cells #[.int .u8 (x.toNat : Int)] 5)).alloc (.cells #[.int .u8 (y.toNat : Int)] 5)) (.slice (some ⟨w5.heap.size + 1, 0, none⟩) 1 1) [y]) := Lib.hid (by
    have h := bytes_one (w5.alloc (.cells #[.int .u8 (x.toNat : Int)] 5)) y
    simpa using h)
  have HC7 := Lib.hid (HC5.out.on HS6.out)
  have HD7 := Lib.hid (HD5.out.on HS6.out)
  have HB7 := Lib.hid (HB5.out.trans (HS6.out.mono HB5.out.size))
  go_wp2_with fail
  refine (first_any _).mono ?_
  rintro e w8 ⟨rfl, h⟩
  have HC8 := Lib.hid (HC7.out.on h)
  have HD8 := Lib.hid (HD7.out.on h)
  have HX8 := Lib.hid (HX7.out.on h)
  have HY8 := Lib.hid (HY7.out.on h)
  have HB8 := Lib.hid (HB7.out.trans (h.mono HB7.out.size))
  have HV8 := Lib.hid (HV.out.on HB8.out)
  clear h
  go_wp2_with fail
  refine (Modbus_any _ _ w8 HC8.out HX.out.2.1).mono ?_
  rintro e w9 ⟨rfl, rfl⟩
  rw [HM.out.1.1]
  go_wp2_with fail
  refine (Modbus_any _ _ w8 HD8.out HX.out.2.2.1).mono ?_
  rintro e w9 ⟨rfl, rfl⟩
  rw [HM.out.1.2]
  go_wp2_with fail
  refine (Dnp_any _ _ w8 HC8.out HX.out.2.1).mono ?_
  rintro e w9 ⟨rfl, rfl⟩
  rw [HD.out.1.1]
  go_wp2_with fail
  refine (Dnp_any _ _ w8 HD8.out HX.out.2.2.1).mono ?_
  rintro e w9 ⟨rfl, rfl⟩
  rw [HD.out.1.2]
  go_wp2_with fail
  refine (Modbus_any _ _ w8 HX8.out HX.out.2.2.2.1).mono ?_
  rintro e w9 ⟨rfl, rfl⟩
  rw [HM.out.2.1]
  go_wp2_with fail
  refine (Modbus_any _ _ w8 HY8.out HX.out.2.2.2.2).mono ?_
  rintro e w9 ⟨rfl, rfl⟩
  rw [HM.out.2.2]
  go_wp2_with fail
  refine (Dnp_any _ _ w8 HX8.out HX.out.2.2.2.1).mono ?_
  rintro e w9 ⟨rfl, rfl⟩
  rw [HD.out.2.1]
  go_wp2_with fail
  refine (Dnp_any _ _ w8 HY8.out HX.out.2.2.2.2).mono ?_
  rintro e w9 ⟨rfl, rfl⟩
  rw [HD.out.2.2]
  go_wp2_with fail
  refine (Modbus_any _ _ w8 HC8.out HX.out.2.1).mono ?_
  rintro e w9 ⟨rfl, rfl⟩
  rw [HM.out.1.1]
  go_wp2_with fail
  refine (Modbus_any _ _ w8 HV8.out HX.out.1).mono ?_
  rintro e w9 ⟨rfl, rfl⟩
  go_wp2_with fail
  refine (Step_any _ _ x.toNat w8 hxl).mono ?_
  rintro e w9 ⟨rfl, rfl⟩
  rw [HS.out]
  go_wp2
  go_ret
  exact ⟨rfl, HB8.out⟩

set_option maxRecDepth 100000 in
theorem ends_out (ao : Option Addr) (cap : Nat) (l : List UInt8) (x y : UInt8) (w : World) (hm : l.length ≤ maxLen) (hout : 20000 < l.length ∨ x = y) : Calls Try.prog 10 #[.slice ao l.length cap, .int .u8 (x.toNat : Int), .int .u8 (y.toNat : Int)] w fun e w' => e = .returned (.bool true) ∧ Below w.heap.size w w' := by
  unfold maxLen at hm
  by_cases h1 : 20000 < l.length
  · clear hout
    go_enter Try.func10, Try.ntmps10
    go_wp2_with fail
    refine (first_any w).mono ?_
    rintro e w1 ⟨rfl, h⟩
    have HB1 := Lib.hid h
    clear h
    go_wp2_with fail
    refine (first_any w1).mono ?_
    rintro e w2 ⟨rfl, h⟩
    have HB2 := Lib.hid (HB1.out.trans (h.mono HB1.out.size))
    clear h
    go_wp2
    go_ret
    exact ⟨rfl, HB2.out⟩
  · have hxy : x = y := by
      rcases hout with h | h
      · exact absurd h h1
      · exact h
    subst hxy
    clear hout
    go_enter Try.func10, Try.ntmps10
    go_wp2_with fail
    refine (first_any w).mono ?_
    rintro e w1 ⟨rfl, h⟩
    have HB1 := Lib.hid h
    clear h
    go_wp2_with fail
    refine (first_any w1).mono ?_
    rintro e w2 ⟨rfl, h⟩
    have HB2 := Lib.hid (HB1.out.trans (h.mono HB1.out.size))
    clear h
    go_wp2
    go_ret
    exact ⟨rfl, HB2.out⟩

theorem modN_ne (l m : List UInt8) (x y : UInt8) (h : x ≠ y) : modN (l ++ x :: m) ≠ modN (l ++ y :: m) := fun e => h (runN_one 40961 (by omega) (by omega) 65535 (by omega) l m x y e)
theorem dnpN_ne (l m : List UInt8) (x y : UInt8) (h : x ≠ y) : dnpN (l ++ x :: m) ≠ dnpN (l ++ y :: m) := fun e => by
  unfold dnpN at e
  rw [Nat.xor_comm _ 65535, Nat.xor_comm _ 65535] at e
  exact h (runN_one 42684 (by omega) (by omega) 0 (by omega) l m x y (xor_cancel e))

theorem ends_any (ao : Option Addr) (cap : Nat) (l : List UInt8) (x y : UInt8) (w : World) (hv : BytesAt w (.slice ao l.length cap) l) (hm : l.length ≤ maxLen) : Calls Try.prog 10 #[.slice ao l.length cap, .int .u8 (x.toNat : Int), .int .u8 (y.toNat : Int)] w fun e w' => e = .returned (.bool true) ∧ Below w.heap.size w w' := by
  by_cases h : 20000 < l.length ∨ x = y
  · exact ends_out ao cap l x y w hm h
  · have hne : x ≠ y := fun e => h (.inr e)
    have hl : l.length ≤ 20000 := by omega
    have hxy : ((x.toNat : Int) == (y.toNat : Int)) = false := beq_eq_false_iff_ne.2 (fun e => hne (UInt8.toNat_inj.1 (by omega)))
    have hst : stepN (lo 40961) (lo ((modN l : Nat) : Int)) x.toNat = modN (l ++ [x]) := by
      rw [lo_nat _ (modN_lt l)]
      exact (runN_snoc 40961 65535 l x).symm
    cases ao with
    | none =>
      have h0 : l = [] := by
        obtain ⟨a', c', e, hc⟩ := hv
        simp only [Value.slice.injEq] at e
        obtain ⟨rfl, _, _⟩ := e
        cases l with
        | nil => rfl
        | cons q r => obtain ⟨b, off, e, _⟩ := hc 0 (by simp); cases e
      subst h0
      exact ends_nil cap x y _ _ _ _ _ _ _ _ w hv hxy rfl rfl rfl rfl rfl rfl rfl rfl (ne_int (modN_ne [] [] x y hne)) (ne_int (modN_ne [] [] x y hne)) (ne_int (dnpN_ne [] [] x y hne)) (ne_int (dnpN_ne [] [] x y hne)) hst
    | some ad =>
      exact ends_some ad cap l x y _ _ _ _ _ _ _ _ w hv hl hxy rfl rfl rfl rfl rfl rfl rfl rfl (ne_int (modN_ne l [] x y hne)) (ne_int (modN_ne [] l x y hne)) (ne_int (dnpN_ne l [] x y hne)) (ne_int (dnpN_ne [] l x y hne)) hst
end Go.Proofs.Ytdmbdbonmnkjlaa
