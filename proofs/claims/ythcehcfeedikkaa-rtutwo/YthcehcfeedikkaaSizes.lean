/- yardlaw8.RtuSizes answers true for every argument; memory that was there stands. -/
import Derived.Test.YthcehcfeedikkaaFirst
import Derived.Test.YthcehcfeedikkaaSpec
namespace Go.Proofs.Ythcehcfeedikkaa
open Go.RowKit Go.Extern.Stop Go.Stop Go.Extern

def TrueIs (w : World) (e : Ending) (w' : World) : Prop := e = .returned (.bool true) ∧ Below w.heap.size w w'

set_option maxRecDepth 100000 in
set_option maxHeartbeats 2000000 in
theorem sizes_new (addr : Int) (ao : Option Addr) (len cap : Nat) (s n : Int) (w : World) (hs : s < 1 ∨ 100 < s) : Calls Try.prog 6 #[.int .i64 addr, .slice ao len cap, .int .i64 s, .int .i64 n] w (TrueIs w) := by
  go_enter Try.func6, Try.ntmps6
  go_wp2_with fail
  refine (first_any w).mono ?_
  rintro e w1 ⟨rfl, hb⟩
  have X1 := Lib.hid hb
  clear hb
  go_wp2_with fail
  refine (new_no s w1 hs).mono ?_
  rintro e w2 ⟨x, rfl, hx, hb⟩
  obtain ⟨bx, rfl⟩ := hx.form
  have X2 := Lib.hid (X1.out.trans (hb.mono X1.out.size))
  clear hb hx
  go_wp2_with fail
  refine (first_any w2).mono ?_
  rintro e w3 ⟨rfl, hb⟩
  have X3 := Lib.hid (X2.out.trans (hb.mono X2.out.size))
  clear hb
  go_wp2
  go_ret
  exact ⟨rfl, X3.out⟩

set_option maxRecDepth 100000 in
set_option maxHeartbeats 2000000 in
theorem sizes_out (addr : Int) (ao : Option Addr) (len cap : Nat) (s n : Int) (w : World) (hlen : len ≤ 9223372036854775807) (h1 : 1 ≤ s) (h2 : s ≤ 100) (h : 3000 < len ∨ n < 0 ∨ 300 < n) : Calls Try.prog 6 #[.int .i64 addr, .slice ao len cap, .int .i64 s, .int .i64 n] w (TrueIs w) := by
  have HS := Lib.hid (And.intro h1 h2)
  have hl : (3000 : Int) < (len : Int) ∨ ((len : Int) ≤ 3000 ∧ n < 0) ∨ ((len : Int) ≤ 3000 ∧ 0 ≤ n ∧ 300 < n) := by omega
  clear h1 h2 h
  rcases hl with h | ⟨h, h'⟩ | ⟨h, h', h''⟩ <;> (
    go_enter Try.func6, Try.ntmps6
    go_wp2_with fail
    refine (first_any w).mono ?_
    rintro e w1 ⟨rfl, hb⟩
    have X1 := Lib.hid hb
    clear hb
    go_wp2_with fail
    refine (new_ok s w1 HS.out.1 HS.out.2).mono ?_
    rintro e w2 ⟨rfl, h0, hb⟩
    have X2 := Lib.hid (X1.out.trans (hb.mono X1.out.size))
    clear hb h0
    go_wp2_with fail
    refine (first_any w2).mono ?_
    rintro e w3 ⟨rfl, hb⟩
    have X3 := Lib.hid (X2.out.trans (hb.mono X2.out.size))
    clear hb
    go_wp2
    go_ret
    exact ⟨rfl, X3.out⟩)

set_option maxRecDepth 100000 in
set_option maxHeartbeats 2000000 in
theorem sizes_in (addr : Int) (ao : Option Addr) (cap : Nat) (l : List UInt8) (s : Int) (n : Nat) (w : World) (hv : BytesAt w (.slice ao l.length cap) l) (hlen : l.length ≤ 3000) (h1 : 1 ≤ s) (h2 : s ≤ 100) (hn : n ≤ 300) : Calls Try.prog 6 #[.int .i64 addr, .slice ao l.length cap, .int .i64 s, .int .i64 (n : Int)] w (TrueIs w) := by
  have HS := Lib.hid (And.intro h1 h2)
  have HV := Lib.hid hv
  have hn' : ¬ (300 : Int) < (n : Int) := by omega
  have hn0 : ¬ (n : Int) < 0 := by omega
  have hl' : ¬ (3000 : Int) < (l.length : Int) := by omega
  clear h1 h2 hv
  go_enter Try.func6, Try.ntmps6
  go_wp2_with fail
  refine (first_any w).mono ?_
  rintro e w1 ⟨rfl, hb⟩
  have X1 := Lib.hid hb
  clear hb
  go_wp2_with fail
  refine (new_ok s w1 HS.out.1 HS.out.2).mono ?_
  rintro e w2 ⟨rfl, h0, hb⟩
  have X2 := Lib.hid (X1.out.trans (hb.mono X1.out.size))
  have F2 : Hid (Fm w1 w1.heap.size s 0 [] w2) := Lib.hid (h0.fm' (Off.of_below _ hb))
  clear hb h0
  go_wp2_with fail
  go_loopg [11] n (fun k s7 wr => w2 = wr ∧ ∃ i : Nat, i ≤ n ∧ k = n - i ∧ s7 = .int .i64 i)
  case atStart => exact ⟨rfl, 0, Nat.zero_le _, rfl, rfl⟩
  case round =>
    obtain ⟨rfl, i, hi, rfl, rfl⟩ := hrel
    by_cases hlt : i < n
    · go_wp2_with fail
      refine (tick_none w1 w2 _ s 0 F2.out).mono ?_
      rintro e w3 ⟨rfl, rfl⟩
      go_wp2_with fail
      refine (pend_any w1 w2 _ s 0 [] F2.out).mono ?_
      rintro e w3 ⟨rfl, rfl⟩
      go_wp2
      go_roundg (n - (i + 1))
      case measure => omega
      case rel => exact ⟨rfl, i + 1, by omega, rfl, by go_num⟩
    · by_cases hc : frCode addr l.length = 0
      · obtain ⟨⟨ha0, ha1⟩, hl0, hl1⟩ := frCode_zero.1 hc
        obtain ⟨a, rfl⟩ : ∃ a : UInt8, addr = (a.toNat : Int) := ⟨UInt8.ofNat addr.toNat, by rw [UInt8.toNat_ofNat']; omega⟩
        go_wp2_with fail
        refine (frame_ok a _ l w2 (HV.out.on X2.out) hl0 hl1).mono ?_
        rintro e w3 ⟨v3, rfl, ho, hb⟩
        obtain ⟨g3, k3, rfl, hg3, _⟩ := row_lit ho (by rw [frm_length]; omega)
        have hk3 := row_cap ho
        have hfl := frm_length a l
        have O3 := Lib.hid ho
        have X3 := Lib.hid (X2.out.trans (hb.mono X2.out.size))
        have HM : Hid (((frm a l).drop 1).take l.length = l) := Lib.hid (by have := frm_mid a l; rwa [frm_length] at this)
        have HH : Hid ((bcells (frm a l))[0]? = some (.int .u8 (a.toNat : Int))) := Lib.hid rfl
        clear hb ho
        generalize frm a l = fl at *
        obtain ⟨m, hm⟩ : ∃ m, m = fl.length := ⟨_, rfl⟩
        rw [← hm] at hfl hk3 ⊢
        rw [← hm] at O3
        have HME := Lib.hid hm
        clear hm
        have m1 : ((m : Int) == (l.length : Int) + 3) = true := beq_iff_eq.2 (by omega)
        have m2 : (0 : Int) < (m : Int) := by omega
        have m3 : (l.length : Int) + 1 ≤ (m : Int) := by omega
        have m4 : (m : Int) ≤ (k3 : Int) := by omega
        have m5 : ¬ k3 = 1 := by omega
        have m6 : ((a.toNat : Int) == (a.toNat : Int)) = true := beq_self_eq_true _
        have HFL := Lib.hid hfl
        clear hfl
        go_wp2_with fail
        refine (first_any w3).mono ?_
        rintro e w4 ⟨rfl, hb⟩
        have X4 := Lib.hid (X3.out.trans (hb.mono X3.out.size))
        have O4 := Lib.hid (ownsRow_off O3.out (Off.of_below (fun _ => False) hb) (fun _ _ f => f))
        have c4 : w4.cell? ⟨g3, 0, none⟩ = some (.int .u8 (a.toNat : Int)) := (O4.out.cellAt 0 (by omega)).trans HH.out
        clear hb
        go_wp2_with fail
        have hbt : BytesAt w4 (.slice (some ⟨g3, 0 + 1, none⟩) l.length (k3 - 1)) ((fl.drop 1).take l.length) := part_at (cap := k3) (bytesAt_own (by rw [← HME.out]; exact O4.out)) 1 l.length _ (by rw [← HME.out]; have := HFL.out; omega)
        rw [Nat.zero_add, HM.out] at hbt
        refine (alike_any _ _ l l w4 hbt (HV.out.on X4.out)).mono ?_
        rintro e w5 ⟨rfl, rfl⟩
        rw [beq_self_eq_true]
        clear hbt c4
        go_wp2
        go_ret
        exact ⟨rfl, X4.out⟩
      · go_wp2_with fail
        refine (frame_no addr ao l.length cap w2 (by omega) hc).mono ?_
        rintro e w3 ⟨x, rfl, hx, hb⟩
        obtain ⟨bx, rfl⟩ := hx.form
        have X3 := Lib.hid (X2.out.trans (hb.mono X2.out.size))
        clear hx hb
        go_wp2_with fail
        refine (first_any w3).mono ?_
        rintro e w4 ⟨rfl, hb⟩
        have X4 := Lib.hid (X3.out.trans (hb.mono X3.out.size))
        clear hb
        go_wp2
        go_ret
        exact ⟨rfl, X4.out⟩

theorem sizes_any (addr : Int) (ao : Option Addr) (cap : Nat) (l : List UInt8) (s n : Int) (w : World) (hv : BytesAt w (.slice ao l.length cap) l) (hlen : l.length ≤ 9223372036854775807) : Calls Try.prog 6 #[.int .i64 addr, .slice ao l.length cap, .int .i64 s, .int .i64 n] w (TrueIs w) := by
  by_cases hs : s < 1 ∨ 100 < s
  · exact sizes_new addr ao l.length cap s n w hs
  · by_cases ho : 3000 < l.length ∨ n < 0 ∨ 300 < n
    · exact sizes_out addr ao l.length cap s n w hlen (by omega) (by omega) ho
    · obtain ⟨m, rfl⟩ : ∃ m : Nat, n = (m : Int) := ⟨n.toNat, by omega⟩
      exact sizes_in addr ao cap l s m w hv (by omega) (by omega) (by omega) (by omega)
end Go.Proofs.Ythcehcfeedikkaa
