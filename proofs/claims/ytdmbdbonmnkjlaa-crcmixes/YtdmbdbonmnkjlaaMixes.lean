/- yardlaw3.CrcMixes answers true for every three rows of bytes; memory that was there stands. -/
import Derived.Test.YtdmbdbonmnkjlaaTurned
import Derived.StillTailTactics
namespace Go.Proofs.Ytdmbdbonmnkjlaa
open Go.RowKit

theorem u8xor_lt {a b : Nat} (ha : a < 256) (hb : b < 256) : a ^^^ b < 256 := Nat.xor_lt_two_pow (n := 8) ha hb
theorem BytesAt.at' {w : World} {ao : Option Addr} {n cap : Nat} {l : List UInt8} (h : BytesAt w (.slice ao n cap) l) (i : Nat) (hi : i < l.length) : ∃ b off, ao = some ⟨b, off, none⟩ ∧ w.cell? ⟨b, off + i, none⟩ = some (.int .u8 (l[i].toNat : Int)) := by
  obtain ⟨ao', cap', e, hc⟩ := h
  simp only [Value.slice.injEq] at e
  obtain ⟨rfl, _, _⟩ := e
  exact hc i hi
/-- three bytes mixed. -/
def mix3 (x y z : UInt8) : UInt8 := UInt8.ofNat (x.toNat ^^^ y.toNat ^^^ z.toNat)
theorem mix3_nat (x y z : UInt8) : (mix3 x y z).toNat = x.toNat ^^^ y.toNat ^^^ z.toNat := by
  unfold mix3
  rw [UInt8.toNat_ofNat']
  have := u8xor_lt (u8xor_lt (byte_lt x) (byte_lt y)) (byte_lt z)
  omega
/-- three rows, the first k bytes of them mixed. -/
def mixTo (a b c : List UInt8) (k : Nat) : List UInt8 := a.mapIdx fun i x => if i < k then mix3 x (b.getD i 0) (c.getD i 0) else x
theorem mixTo_length (a b c : List UInt8) (k : Nat) : (mixTo a b c k).length = a.length := by simp [mixTo]
theorem mixTo_zero (a b c : List UInt8) : mixTo a b c 0 = a := by
  apply List.ext_getElem (by simp [mixTo])
  intro i h1 h2
  simp [mixTo]
theorem mixTo_step (a b c : List UInt8) (k : Nat) (ha : k < a.length) (hb : k < b.length) (hc : k < c.length) : (mixTo a b c k).set k (mix3 a[k] b[k] c[k]) = mixTo a b c (k + 1) := by
  apply List.ext_getElem (by simp [mixTo])
  intro i h1 h2
  rw [List.getElem_set]
  by_cases e : k = i
  · subst e
    simp [mixTo, List.getD, hb, hc]
  · have : (i < k + 1) = (i < k) := by simp; omega
    simp [mixTo, e, this]
theorem mixTo_get (a b c : List UInt8) (i : Nat) (ha : i < a.length) (hb : i < b.length) (hc : i < c.length) (h : i < (mixTo a b c a.length).length) : (mixTo a b c a.length)[i].toNat = a[i].toNat ^^^ b[i].toNat ^^^ c[i].toNat := by
  simp [mixTo, ha, List.getD, hb, hc, mix3_nat]
theorem mixTo_mod (a b c : List UInt8) (hb : b.length = a.length) (hc : c.length = a.length) : modN (mixTo a b c a.length) = modN a ^^^ modN b ^^^ modN c := by
  have h := runN_mix 40961 a b c (mixTo a b c a.length) 65535 65535 65535 hb hc (mixTo_length ..) (fun i h1 h2 h3 h4 => mixTo_get a b c i h1 h2 h3 h4)
  exact h
theorem mixTo_dnp (a b c : List UInt8) (hb : b.length = a.length) (hc : c.length = a.length) : dnpN (mixTo a b c a.length) = dnpN a ^^^ dnpN b ^^^ dnpN c := by
  have h := runN_mix 42684 a b c (mixTo a b c a.length) 0 0 0 hb hc (mixTo_length ..) (fun i h1 h2 h3 h4 => mixTo_get a b c i h1 h2 h3 h4)
  unfold dnpN
  rw [show (0 : Nat) = 0 ^^^ 0 ^^^ 0 from rfl, h]
  show runN 42684 0 a ^^^ runN 42684 0 b ^^^ runN 42684 0 c ^^^ 65535 = _
  apply Nat.eq_of_testBit_eq
  intro i
  simp only [Nat.testBit_xor]
  cases (runN 42684 0 a).testBit i <;> cases (runN 42684 0 b).testBit i <;> cases (runN 42684 0 c).testBit i <;> cases (65535 : Nat).testBit i <;> rfl

set_option maxRecDepth 100000 in
set_option maxHeartbeats 2000000 in
/-- .. of one length. -/
theorem mixes_in (ao bo co : Option Addr) (ca cb cc n : Nat) (a b c : List UInt8) (w : World) (hva : BytesAt w (.slice ao n ca) a) (hvb : BytesAt w (.slice bo n cb) b) (hvc : BytesAt w (.slice co n cc) c) (hn : n ≤ 20000) (hla : Hid (a.length = n)) (hlb : Hid (b.length = n)) (hlc : Hid (c.length = n)) (M MA MB MC MX D DA DB DC DX : Nat)
    (hm : modN (mixTo a b c n) = M) (ha : modN a = MA) (hb : modN b = MB) (hc : modN c = MC) (hx : bits .xor .i64 (MA : Int) (MB : Int) = (MX : Int)) (hy : bits .xor .i64 (MX : Int) (MC : Int) = (M : Int))
    (hd : dnpN (mixTo a b c n) = D) (hda : dnpN a = DA) (hdb : dnpN b = DB) (hdc : dnpN c = DC) (hdx : bits .xor .i64 (DA : Int) (DB : Int) = (DX : Int)) (hdy : bits .xor .i64 (DX : Int) (DC : Int) = (D : Int)) :
    Calls Try.prog 8 #[.slice ao n ca, .slice bo n cb, .slice co n cc] w fun e w' => e = .returned (.bool true) ∧ Below w.heap.size w w' := by
  have HA := Lib.hid hva
  have HB := Lib.hid hvb
  have HC := Lib.hid hvc
  have HM := Lib.hid (And.intro hm (And.intro ha (And.intro hb hc)))
  have HD := Lib.hid (And.intro hd (And.intro hda (And.intro hdb hdc)))
  have HL : Hid (a.length ≤ maxLen ∧ b.length ≤ maxLen ∧ c.length ≤ maxLen ∧ (mixTo a b c n).length ≤ maxLen) := Lib.hid (by rw [mixTo_length, hla.out, hlb.out, hlc.out]; unfold maxLen; omega)
  clear hva hvb hvc hm ha hb hc hd hda hdb hdc
  have hb1 : decide (20000 < (n : Int)) = false := by simp; omega
  go_enter Try.func8, Try.ntmps8
  go_wp2_with fail
  refine (first_any w).mono ?_
  rintro e w1 ⟨rfl, h⟩
  have HB1 := Lib.hid h
  clear h
  go_wp2_with fail
  refine (copy_any _ a w1 (HA.out.on HB1.out) (by rw [hla.out]; omega)).mono ?_
  intro e w2 h'
  obtain ⟨ad, cd, rfl, ho, _, h⟩ := copyIs_form h'
  clear h'
  rw [hla.out] at ho
  rw [hla.out]
  have HO2 : Hid (w2.ownsRow w1.heap.size 5 1 (.slice ad n cd) n (bcells (mixTo a b c 0))) := Lib.hid (by rw [mixTo_zero]; exact ho)
  have HB2 := Lib.hid (HB1.out.trans (h.mono HB1.out.size))
  have S1 := Lib.hid HB1.out.size
  clear h ho
  go_wp2_with fail
  go_loopg [8] n (fun k s8 wr => ∃ i : Nat, i ≤ n ∧ k = n - i ∧ s8 = .int .i64 i ∧ Hid (wr.ownsRow w1.heap.size 5 1 (.slice ad n cd) n (bcells (mixTo a b c i)) ∧ Below w.heap.size w wr))
  case atStart => exact ⟨0, Nat.zero_le _, rfl, rfl, Lib.hid ⟨HO2.out, HB2.out⟩⟩
  case round =>
    obtain ⟨i, hi, rfl, rfl, hinv⟩ := hrel
    by_cases hlt : i < n
    · obtain ⟨g, c5, e5, hg5, _⟩ := HO2.out.form (show 0 < n by omega)
      simp only [Value.slice.injEq, true_and] at e5
      obtain ⟨rfl, rfl⟩ := e5
      obtain ⟨ba, oa, rfl, ka⟩ := (HA.out.on hinv.out.2).at' i (by rw [hla.out]; exact hlt)
      obtain ⟨bb, ob, rfl, kb⟩ := (HB.out.on hinv.out.2).at' i (by rw [hlb.out]; exact hlt)
      obtain ⟨bc, oc, rfl, kc⟩ := (HC.out.on hinv.out.2).at' i (by rw [hlc.out]; exact hlt)
      have kd := hinv.out.1.cellAt i (by omega)
      rw [bcells_get _ i (by rw [mixTo_length, hla.out]; exact hlt)] at kd
      have kf := hinv.out.1.frozenAt i
      have la := byte_lt (a[i]'(by rw [hla.out]; exact hlt))
      have lb := byte_lt (b[i]'(by rw [hlb.out]; exact hlt))
      have lc := byte_lt (c[i]'(by rw [hlc.out]; exact hlt))
      have x1 := u8_xor_nat _ _ la lb
      have x2 := (u8_xor_nat _ _ (u8xor_lt la lb) lc).trans (congrArg (fun n : Nat => (n : Int)) (mix3_nat _ _ _).symm)
      have HS : ∀ q, Hid (((wr.drewN q).setCell ⟨g, i, none⟩ (.int .u8 ((mix3 (a[i]'(by rw [hla.out]; exact hlt)) (b[i]'(by rw [hlb.out]; exact hlt)) (c[i]'(by rw [hlc.out]; exact hlt))).toNat : Int))).ownsRow w1.heap.size 5 1 (.slice (some ⟨g, 0, none⟩) n cd) n (bcells (mixTo a b c (i + 1))) ∧ Below w.heap.size w ((wr.drewN q).setCell ⟨g, i, none⟩ (.int .u8 ((mix3 (a[i]'(by rw [hla.out]; exact hlt)) (b[i]'(by rw [hlb.out]; exact hlt)) (c[i]'(by rw [hlc.out]; exact hlt))).toNat : Int)))) := fun q => Lib.hid ⟨by
        rw [← mixTo_step a b c i (by rw [hla.out]; exact hlt) (by rw [hlb.out]; exact hlt) (by rw [hlc.out]; exact hlt)]
        exact own_stored (xs := mixTo a b c i) hinv.out.1 i _, (below_drewN hinv.out.2 q).setCell (Nat.le_trans S1.out hg5) _⟩
      clear hinv
      generalize (a[i]'(by rw [hla.out]; exact hlt)).toNat = za at *
      generalize (b[i]'(by rw [hlb.out]; exact hlt)).toNat = zb at *
      generalize (c[i]'(by rw [hlc.out]; exact hlt)).toNat = zc at *
      generalize (mix3 (a[i]'(by rw [hla.out]; exact hlt)) (b[i]'(by rw [hlb.out]; exact hlt)) (c[i]'(by rw [hlc.out]; exact hlt))).toNat = zm at *
      have HS1 := HS 1
      clear HS
      go_wp2
      go_still_tail 16, (by kernel_rfl)
      go_wp2
      go_roundg (n - (i + 1))
      case measure => omega
      case rel => exact ⟨i + 1, by omega, rfl, by go_num, HS1⟩
    · have he : i = n := by omega
      subst he
      have HD3 : Hid (BytesAt wr (.slice ad i cd) (mixTo a b c i)) := Lib.hid (bytesAt_own' hinv.out.1 (by rw [mixTo_length, hla.out]))
      have HB3 := Lib.hid hinv.out.2
      clear hinv
      obtain ⟨w3, hw3⟩ : ∃ x, x = wr := ⟨_, rfl⟩
      subst hw3
      go_wp2_with fail
      refine (first_any w3).mono ?_
      rintro e w4 ⟨rfl, h⟩
      have HD4 := Lib.hid (HD3.out.on h)
      have HB4 := Lib.hid (HB3.out.trans (h.mono HB3.out.size))
      have HA4 := Lib.hid (HA.out.on HB4.out)
      have HE4 := Lib.hid (HB.out.on HB4.out)
      have HC4 := Lib.hid (HC.out.on HB4.out)
      clear h
      go_wp2_with fail
      refine (Modbus_any _ _ w4 HD4.out HL.out.2.2.2).mono ?_
      rintro e w5 ⟨rfl, rfl⟩
      rw [HM.out.1]
      go_wp2_with fail
      refine (Modbus_any _ _ w4 HA4.out HL.out.1).mono ?_
      rintro e w5 ⟨rfl, rfl⟩
      rw [HM.out.2.1]
      go_wp2_with fail
      refine (Modbus_any _ _ w4 HE4.out HL.out.2.1).mono ?_
      rintro e w5 ⟨rfl, rfl⟩
      rw [HM.out.2.2.1]
      go_wp2_with fail
      refine (Modbus_any _ _ w4 HC4.out HL.out.2.2.1).mono ?_
      rintro e w5 ⟨rfl, rfl⟩
      rw [HM.out.2.2.2]
      go_wp2_with fail
      refine (Dnp_any _ _ w4 HD4.out HL.out.2.2.2).mono ?_
      rintro e w5 ⟨rfl, rfl⟩
      rw [HD.out.1]
      go_wp2_with fail
      refine (Dnp_any _ _ w4 HA4.out HL.out.1).mono ?_
      rintro e w5 ⟨rfl, rfl⟩
      rw [HD.out.2.1]
      go_wp2_with fail
      refine (Dnp_any _ _ w4 HE4.out HL.out.2.1).mono ?_
      rintro e w5 ⟨rfl, rfl⟩
      rw [HD.out.2.2.1]
      go_wp2_with fail
      refine (Dnp_any _ _ w4 HC4.out HL.out.2.2.1).mono ?_
      rintro e w5 ⟨rfl, rfl⟩
      rw [HD.out.2.2.2]
      go_wp2
      go_ret
      exact ⟨rfl, HB4.out⟩

set_option maxRecDepth 100000 in
theorem mixes_out (ao bo co : Option Addr) (ca cb cc na nb nc : Nat) (w : World) (ma : na ≤ 9223372036854775807) (_mb : nb ≤ 9223372036854775807) (_mc : nc ≤ 9223372036854775807) (hout : 20000 < na ∨ nb ≠ na ∨ nc ≠ na) : Calls Try.prog 8 #[.slice ao na ca, .slice bo nb cb, .slice co nc cc] w fun e w' => e = .returned (.bool true) ∧ Below w.heap.size w w' := by
  have HO := Lib.hid hout
  clear hout
  have key : ∀ (q1 q2 q3 : Bool), decide (20000 < (na : Int)) = q1 → ((nb : Int) != (na : Int)) = q2 → ((nc : Int) != (na : Int)) = q3 → Hid ((q1 || q2 || q3) = true) → Calls Try.prog 8 #[.slice ao na ca, .slice bo nb cb, .slice co nc cc] w fun e w' => e = .returned (.bool true) ∧ Below w.heap.size w w' := by
    intro q1 q2 q3 h1 h2 h3 HQ
    cases q1 with
    | true =>
      go_enter Try.func8, Try.ntmps8
      go_wp2_with fail
      refine (first_any w).mono ?_
      rintro e w1 ⟨rfl, h⟩
      have HB1 := Lib.hid h
      clear h
      go_wp2_with fail
      refine (first_any w1).mono ?_
      rintro e w2 ⟨rfl, h⟩
      have HB2 := Lib.hid (HB1.out.trans (h.mono HB1.out.size))
      clear h
      go_wp2
      go_ret
      exact ⟨rfl, HB2.out⟩
    | false =>
      cases q2 with
      | true =>
        go_enter Try.func8, Try.ntmps8
        go_wp2_with fail
        refine (first_any w).mono ?_
        rintro e w1 ⟨rfl, h⟩
        have HB1 := Lib.hid h
        clear h
        go_wp2_with fail
        refine (first_any w1).mono ?_
        rintro e w2 ⟨rfl, h⟩
        have HB2 := Lib.hid (HB1.out.trans (h.mono HB1.out.size))
        clear h
        go_wp2
        go_ret
        exact ⟨rfl, HB2.out⟩
      | false =>
        cases q3 with
        | true =>
          go_enter Try.func8, Try.ntmps8
          go_wp2_with fail
          refine (first_any w).mono ?_
          rintro e w1 ⟨rfl, h⟩
          have HB1 := Lib.hid h
          clear h
          go_wp2_with fail
          refine (first_any w1).mono ?_
          rintro e w2 ⟨rfl, h⟩
          have HB2 := Lib.hid (HB1.out.trans (h.mono HB1.out.size))
          clear h
          go_wp2
          go_ret
          exact ⟨rfl, HB2.out⟩
        | false => exact absurd HQ.out (by decide)
  refine key _ _ _ rfl rfl rfl (Lib.hid ?_)
  simp only [Bool.or_eq_true, decide_eq_true_eq, bne_iff_ne, ne_eq]
  have := HO.out
  omega

theorem mixes_any (ao bo co : Option Addr) (ca cb cc na nb nc : Nat) (a b c : List UInt8) (w : World) (hva : BytesAt w (.slice ao na ca) a) (hvb : BytesAt w (.slice bo nb cb) b) (hvc : BytesAt w (.slice co nc cc) c) (la : a.length = na) (lb : b.length = nb) (lc : c.length = nc) (ma : na ≤ maxLen) (mb : nb ≤ maxLen) (mc : nc ≤ maxLen) :
    Calls Try.prog 8 #[.slice ao na ca, .slice bo nb cb, .slice co nc cc] w fun e w' => e = .returned (.bool true) ∧ Below w.heap.size w w' := by
  unfold maxLen at ma mb mc
  by_cases h : 20000 < na ∨ nb ≠ na ∨ nc ≠ na
  · exact mixes_out ao bo co ca cb cc na nb nc w (by omega) (by omega) (by omega) h
  · obtain ⟨rfl, rfl, hn⟩ : nb = na ∧ nc = na ∧ na ≤ 20000 := by omega
    have hm := mixTo_mod a b c (by omega) (by omega)
    have hd := mixTo_dnp a b c (by omega) (by omega)
    rw [la] at hm hd
    exact mixes_in ao bo co ca cb cc nc a b c w hva hvb hvc hn (Lib.hid la) (Lib.hid lb) (Lib.hid lc) _ _ _ _ _ _ _ _ _ _ hm rfl rfl rfl (xor_nat _ _ (modN_lt a) (modN_lt b)) (xor_nat _ _ (xor_lt (modN_lt a) (modN_lt b)) (modN_lt c)) hd rfl rfl rfl (xor_nat _ _ (dnpN_lt a) (dnpN_lt b)) (xor_nat _ _ (xor_lt (dnpN_lt a) (dnpN_lt b)) (dnpN_lt c))
end Go.Proofs.Ytdmbdbonmnkjlaa
