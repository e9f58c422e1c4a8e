/- yardref7's unbits, unregs: numbers out of bytes, as many as are asked; memory that was there stands. -/
import Derived.Test.YtngfaailbkadfaaDoorQ5
import Derived.Test.YtngfaailbkadfaaDoorSpec
import Derived.Test.YtngfaailbkadfaaDoorQ2
namespace Go.Proofs.YtngfaailbkadfaaDoor
open Go.RowKit Go.Extern.Stop Go.Stop Go.Extern

theorem and_one' (y q : Nat) (hy : y < 256) : bits .and .i64 ((y : Int) / 2 ^ q) 1 = ((y / 2 ^ q % 2 : Nat) : Int) := by
  have h1 : y / 2 ^ q ≤ y := Nat.div_le_self _ _
  have e : (y : Int) / 2 ^ q = ((y / 2 ^ q : Nat) : Int) := by simp
  have h := and_one y q hy
  rw [e] at h ⊢
  generalize y / 2 ^ q = z at h h1 ⊢
  rwa [show wrap64 (z : Int) = (z : Int) by unfold wrap64; omega] at h

set_option maxRecDepth 100000 in
set_option maxHeartbeats 4000000 in
theorem unbits_any (v : Value) (d : List UInt8) (c : Int) (w : World) (hv : BytesAt w v d) (hl : d.length ≤ 100000) (hc : c ≤ 8 * (d.length : Int)) : Calls Tryd.prog 59 #[v, .int .i64 c] w (RowI w (unF d c)) := by
  have HV := Lib.hid hv
  have HL := Lib.hid hl
  obtain ⟨ao, cap, rfl, _⟩ := id hv
  have hl0 : (0 : Int) ≤ (d.length : Int) := by omega
  have hl1 : (d.length : Int) ≤ 100000 := by omega
  clear hl hv
  obtain ⟨n, hn⟩ : ∃ n, n = min c.toNat (8 * d.length) := ⟨_, rfl⟩
  have HI : Hid (RI w ((List.range 0).map (unAt d)) (.slice none 0 0) w) := Lib.hid ⟨Below.refl _ _, World.ownsRow_nil _ _ _ _⟩
  have HN : Hid (n = min c.toNat (8 * d.length) ∧ n = c.toNat) := Lib.hid ⟨hn, by omega⟩
  clear hn
  go_enter Tryd.func59, Tryd.ntmps59
  go_wp2
  go_loopg [5, 6] n (fun k s5 s6 wr => ∃ i : Nat, i ≤ n ∧ k = n - i ∧ s6 = .int .i64 i ∧ Hid (RI w ((List.range i).map (unAt d)) s5 wr))
  case atStart => exact ⟨0, Nat.zero_le _, rfl, rfl, HI⟩
  case round =>
    obtain ⟨i, hi, rfl, rfl, hinv⟩ := hrel
    obtain ⟨xs, hxs⟩ : ∃ xs, xs = (List.range i).map (unAt d) := ⟨_, rfl⟩
    have HXS := Lib.hid hxs
    have HXL : Hid (xs.length = i) := Lib.hid (by rw [hxs]; simp)
    rw [← hxs] at hinv
    obtain ⟨ax, cx, rfl⟩ := row_slice hinv.out.2
    clear hxs
    by_cases hlt : i < n
    · have hi0 : (0 : Int) ≤ (i : Int) := by omega
      have hin : (i : Int) < c := by have := HN.out; omega
      have hi8 : (i : Int) < 8 * (d.length : Int) := by have := HN.out; omega
      obtain ⟨j, hj⟩ : ∃ j, j = i / 8 := ⟨_, rfl⟩
      obtain ⟨q, hq⟩ : ∃ q, q = i % 8 := ⟨_, rfl⟩
      have hjd : j < d.length := by omega
      obtain ⟨ao', cap', he, hcc⟩ := HV.out.on hinv.out.1
      obtain ⟨b, off, hb, hcell⟩ := hcc j hjd
      simp only [Value.slice.injEq] at he
      obtain ⟨rfl, _, rfl⟩ := he
      subst hb
      clear hcc
      have hy := byte_lt d[j]
      have HX : Hid (unAt d i = ((d[j].toNat / 2 ^ q % 2 : Nat) : Int)) := Lib.hid (by unfold unAt; rw [← hj, ← hq]; simp [List.getD, hjd])
      generalize d[j].toNat = y at *
      have ej1 : (i : Int) / 8 = (j : Int) := by omega
      have eq1 : (i : Int) % 8 = (q : Int) := by omega
      have hjl : (j : Int) < (d.length : Int) := by omega
      have hj0 : (0 : Int) ≤ (j : Int) := by omega
      have hq0 : (0 : Int) ≤ (q : Int) := by omega
      have hq8 : (q : Int) < 8 := by omega
      clear hj hq
      have HXe := Lib.hid (HX.out.trans (and_one' y q hy).symm)
      obtain ⟨v6, w6, happ, ho6, hk6⟩ := app_int wr w.heap.size _ xs (bits .and .i64 ((y : Int) / 2 ^ q) 1) hinv.out.2 hinv.out.1.size (by have := HXL.out; have := HL.out; have := HN.out; omega)
      have HN6 : Hid (RI w ((List.range (i + 1)).map (unAt d)) v6 w6) := Lib.hid ⟨hinv.out.1.trans (hk6.below hinv.out.1.size (fun k hk => (hinv.out.2.lt k hk).1)), by rw [range_map_succ, ← HXS.out, HXe.out]; exact ho6⟩
      obtain ⟨av6, cv6, rfl⟩ := row_slice ho6
      clear ho6 hk6
      generalize (xs ++ [bits .and .i64 ((y : Int) / 2 ^ q) 1]).length = nn at *
      go_wp2_with (at_builtin; refine Lib.wpList_append_run _ rfl _ _ _ _ rfl _ _ rfl rfl _ _ happ ?_)
      go_roundg (n - (i + 1))
      case measure => omega
      case rel => exact ⟨i + 1, by omega, rfl, (by first | go_num | exact next_int i (by have := HL.out; have := HN.out; omega)), HN6⟩
    · have hin : c ≤ (i : Int) := by have := HN.out; omega
      have HE : Hid (RI w (unF d c) (.slice ax xs.length cx) wr) := Lib.hid (by
        rw [unF_def, ← HN.out.1, ← show i = n by omega, ← HXS.out]
        exact hinv.out)
      go_wp2
      go_ret
      exact ⟨_, rfl, HE.out.2, HE.out.1⟩
end Go.Proofs.YtngfaailbkadfaaDoor
/- yardref7's unregs: words out of bytes, as many as are asked; memory that was there stands. -/
namespace Go.Proofs.YtngfaailbkadfaaDoor
open Go.RowKit Go.Extern.Stop Go.Stop Go.Extern

def rgAt (d : List UInt8) (i : Nat) : Int := atN d (2 * i)
def rgF (d : List UInt8) (c : Int) : List Int := (List.range c.toNat).map (rgAt d)
theorem rgF_def (d : List UInt8) (c : Int) : rgF d c = (List.range c.toNat).map (rgAt d) := rfl
theorem rgF_length (d : List UInt8) (c : Int) : (rgF d c).length = c.toNat := by simp [rgF]
theorem byte_ofInt (x : Int) (h0 : 0 ≤ x) (h1 : x < 256) : ((UInt8.ofNat x.toNat).toNat : Int) = x := by rw [UInt8.toNat_ofNat']; omega
theorem atN_two (x : Int) (m : List UInt8) (h0 : 0 ≤ x) (h1 : x ≤ 65535) : atN (be 2 x ++ m) 0 = x := by
  rw [qbe_two]
  unfold atN
  simp only [List.cons_append, List.nil_append, List.getD_cons_zero, List.getD_cons_succ, Nat.zero_add]
  rw [byte_ofInt _ (by omega) (by omega), byte_ofInt _ (by omega) (by omega)]
  omega
theorem atN_words : ∀ (l : List Int) (i : Nat) (h : i < l.length), Words l → atN (wordsB l) (2 * i) = l[i]
  | x :: l, 0, _, hw => by
    have := hw x List.mem_cons_self
    rw [wordsB_cons, Nat.mul_zero, atN_two x _ this.1 this.2]
    rfl
  | x :: l, i + 1, h, hw => by
    have h1 := atN_words l i (by simpa using h) (fun v hv => hw v (List.mem_cons_of_mem _ hv))
    rw [wordsB_cons, qbe_two]
    unfold atN at h1 ⊢
    rw [show 2 * (i + 1) = (2 * i + 1) + 1 by omega]
    simp only [List.cons_append, List.nil_append, List.getD_cons_succ, List.getElem_cons_succ]
    exact h1
theorem rgF_words {l : List Int} (h : Words l) : rgF (wordsB l) (l.length : Int) = l := by
  unfold rgF
  rw [Int.toNat_natCast]
  refine List.ext_getElem (by simp) fun i h1 h2 => ?_
  simp only [List.getElem_map, List.getElem_range]
  exact atN_words l i h2 h
set_option maxRecDepth 100000 in
set_option maxHeartbeats 4000000 in
theorem unregs_any (v : Value) (d : List UInt8) (c : Int) (w : World) (hv : BytesAt w v d) (hl : d.length ≤ 100000) (hc : 2 * c ≤ (d.length : Int)) : Calls Tryd.prog 60 #[v, .int .i64 c] w (RowI w (rgF d c)) := by
  have HV := Lib.hid hv
  have HL := Lib.hid hl
  obtain ⟨ao, cap, rfl, _⟩ := id hv
  clear hl hv
  obtain ⟨n, hn⟩ : ∃ n, n = c.toNat := ⟨_, rfl⟩
  have HI : Hid (RI w ((List.range 0).map (rgAt d)) (.slice none 0 0) w) := Lib.hid ⟨Below.refl _ _, World.ownsRow_nil _ _ _ _⟩
  have HN : Hid (n = c.toNat ∧ 2 * n ≤ d.length) := Lib.hid ⟨hn, by omega⟩
  clear hn hc
  go_enter Tryd.func60, Tryd.ntmps60
  go_wp2
  go_loopg [5, 6] n (fun k s5 s6 wr => ∃ i : Nat, i ≤ n ∧ k = n - i ∧ s6 = .int .i64 i ∧ Hid (RI w ((List.range i).map (rgAt d)) s5 wr))
  case atStart => exact ⟨0, Nat.zero_le _, rfl, rfl, HI⟩
  case round =>
    obtain ⟨i, hi, rfl, rfl, hinv⟩ := hrel
    obtain ⟨xs, hxs⟩ : ∃ xs, xs = (List.range i).map (rgAt d) := ⟨_, rfl⟩
    have HXS := Lib.hid hxs
    have HXL : Hid (xs.length = i) := Lib.hid (by rw [hxs]; simp)
    rw [← hxs] at hinv
    obtain ⟨ax, cx, rfl⟩ := row_slice hinv.out.2
    clear hxs
    by_cases hlt : i < n
    · have hi0 : (0 : Int) ≤ (i : Int) := by omega
      have hin : (i : Int) < c := by have := HN.out; omega
      have HW : Hid (Calls Tryd.prog 58 #[.slice ao d.length cap, .int .i64 ((2 * i : Nat) : Int)] wr fun e w' => e = .returned (.int .i64 (rgAt d i)) ∧ Below wr.heap.size wr w') := Lib.hid (at_any _ d (2 * i) wr (HV.out.on hinv.out.1) (by have := HN.out; omega) (by have := HL.out; omega))
      have e2 := Lib.hid (show 2 * (i : Int) = ((2 * i : Nat) : Int) by omega)
      have hi1 : (i : Int) < 100000 := by have := HN.out; have := HL.out; omega
      have e3 : wrap64 (2 * (i : Int)) = 2 * (i : Int) := by unfold wrap64; omega
      have e4 : IntKind.i64.wrap (2 * (i : Int)) = 2 * (i : Int) := by rw [IntKind.wrap_i64]; omega
      go_wp2_with fail
      rw [e2.out]
      refine HW.out.mono ?_
      rintro e w2 ⟨rfl, hb2⟩
      have hrow := ownsRow_off hinv.out.2 (Off.of_below (fun _ => False) hb2) (fun _ _ f => f)
      have X2 := Lib.hid (hinv.out.1.trans (hb2.mono hinv.out.1.size))
      clear hb2
      obtain ⟨v6, w6, happ, ho6, hk6⟩ := app_int w2 w.heap.size _ xs (rgAt d i) hrow X2.out.size (by have := HXL.out; have := HL.out; have := HN.out; omega)
      have HN6 : Hid (RI w ((List.range (i + 1)).map (rgAt d)) v6 w6) := Lib.hid ⟨X2.out.trans (hk6.below X2.out.size (fun k hk => (hrow.lt k hk).1)), by rw [range_map_succ, ← HXS.out]; exact ho6⟩
      obtain ⟨av6, cv6, rfl⟩ := row_slice ho6
      clear ho6 hk6 hrow
      generalize (xs ++ [rgAt d i]).length = nn at *
      generalize rgAt d i = z at *
      go_wp2_with (at_builtin; refine Lib.wpList_append_run _ rfl _ _ _ _ rfl _ _ rfl rfl _ _ happ ?_)
      go_roundg (n - (i + 1))
      case measure => omega
      case rel => exact ⟨i + 1, by omega, rfl, (by first | go_num | exact next_int i (by have := HL.out; have := HN.out; omega)), HN6⟩
    · have hin : c ≤ (i : Int) := by have := HN.out; omega
      have HE : Hid (RI w (rgF d c) (.slice ax xs.length cx) wr) := Lib.hid (by
        rw [rgF_def, ← HN.out.1, ← show i = n by omega, ← HXS.out]
        exact hinv.out)
      go_wp2
      go_ret
      exact ⟨_, rfl, HE.out.2, HE.out.1⟩
end Go.Proofs.YtngfaailbkadfaaDoor
