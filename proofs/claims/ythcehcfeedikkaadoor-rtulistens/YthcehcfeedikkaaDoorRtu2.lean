/- rtu.Frame where it refuses; rtu.Open: for every row of bytes. -/
import Derived.Test.YthcehcfeedikkaaDoorRtu
import Derived.Deep.RegionHeld3
namespace Go.Proofs.YthcehcfeedikkaaDoor
open Go.RowKit Go.Extern.Stop Go.Stop Go.Extern

/-- The code with which Frame refuses. -/
def frCode (a : Int) (n : Nat) : Int := if a < 0 ∨ 255 < a then 1 else if n = 0 then 2 else if 253 < n then 3 else 0

set_option maxRecDepth 100000 in
set_option maxHeartbeats 2000000 in
theorem frame_no (a : Int) (ao : Option Addr) (n cap : Nat) (w : World) (hn : n ≤ 140737488355328) (h : frCode a n ≠ 0) : Calls Tryd.prog 8 #[.int .i64 a, .slice ao n cap] w (BytesNo w n (frCode a n)) := by
  have HC : Hid (frCode a n = if a < 0 ∨ 255 < a then 1 else if n = 0 then 2 else if 253 < n then 3 else 0) := Lib.hid rfl
  have key : ∀ c : Int, Hid (frCode a n = c) → (∀ w1 : World, True) → Calls Tryd.prog 25 #[.int .i64 (n : Int), .int .i64 c] w (fun e w' => ∃ b : Nat, e = .returned (.iface 76 (.pointer (some ⟨b, 0, none⟩))) ∧ Hid (BytesNo w n (frCode a n) (.returned (.tuple #[.slice none 0 0, .iface 76 (.pointer (some ⟨b, 0, none⟩))])) w')) := fun c hc _ => by
    refine (rfault_any n c w).mono ?_
    rintro e w1 ⟨⟨x, rfl, hx⟩, hb⟩
    obtain ⟨b, rfl⟩ := hx.form
    exact ⟨b, rfl, Lib.hid ⟨_, rfl, by rw [hc.out]; exact hx, hb⟩⟩
  have HK := Lib.hid key
  clear key
  by_cases h1 : a < 0 ∨ 255 < a
  · have HC1 : Hid (frCode a n = 1) := Lib.hid (by rw [HC.out, if_pos h1])
    clear HC h
    rcases h1 with h1 | h1 <;> (
      go_enter Tryd.func8, Tryd.ntmps8
      go_wp2_with fail
      refine (HK.out 1 HC1 (fun _ => trivial)).mono ?_
      rintro e w1 ⟨b, rfl, HR⟩
      go_wp2
      go_ret2
      exact HR.out)
  · by_cases h2 : n = 0
    · have HC1 : Hid (frCode a n = 2) := Lib.hid (by rw [HC.out, if_neg h1, if_pos h2])
      have h3 : 0 ≤ a ∧ a ≤ 255 := by omega
      have h4 : (1 : Int) + (n : Int) + 2 < 4 := by omega
      clear HC h h1 h2
      go_enter Tryd.func8, Tryd.ntmps8
      go_wp2_with fail
      refine (HK.out 2 HC1 (fun _ => trivial)).mono ?_
      rintro e w1 ⟨b, rfl, HR⟩
      go_wp2
      go_ret2
      exact HR.out
    · by_cases h3 : 253 < n
      · have HC1 : Hid (frCode a n = 3) := Lib.hid (by rw [HC.out, if_neg h1, if_neg h2, if_pos h3])
        have h3 : 0 ≤ a ∧ a ≤ 255 := by omega
        have h4 : (4 : Int) ≤ (1 : Int) + (n : Int) + 2 := by omega
        have h5 : (256 : Int) < (1 : Int) + (n : Int) + 2 := by omega
        clear HC h h1 h2
        go_enter Tryd.func8, Tryd.ntmps8
        go_wp2_with fail
        refine (HK.out 3 HC1 (fun _ => trivial)).mono ?_
        rintro e w1 ⟨b, rfl, HR⟩
        go_wp2
        go_ret2
        exact HR.out
      · exact absurd (by rw [HC.out, if_neg h1, if_neg h2, if_neg h3]) h

/-- The code with which Open refuses. -/
def opCode (l : List UInt8) : Int := if l.length < 4 then 2 else if 256 < l.length then 3 else if (l.drop (l.length - 2) == sumB (l.take (l.length - 2))) = false then 5 else 0
def OpenOk (w : World) (l : List UInt8) (e : Ending) (w' : World) : Prop := ∃ v, e = .returned (.tuple #[.int .i64 ((l.headD 0).toNat : Int), v, .nilIface]) ∧ w'.ownsRow w.heap.size 5 1 v (l.length - 3) (bcells ((l.drop 1).take (l.length - 3))) ∧ Below w.heap.size w w'
def OpenNo (w : World) (x c : Int) (e : Ending) (w' : World) : Prop := ∃ v, e = .returned (.tuple #[.int .i64 0, .slice none 0 0, v]) ∧ RErr w' x c v ∧ Below w.heap.size w w'

theorem part_at {W : World} {ab aoff cap : Nat} {l : List UInt8} (h : BytesAt W (.slice (some ⟨ab, aoff, none⟩) l.length cap) l) (p n c : Nat) (hn : p + n ≤ l.length) : BytesAt W (.slice (some ⟨ab, aoff + p, none⟩) n c) ((l.drop p).take n) := by
  obtain ⟨ao', cap', e, hc⟩ := h
  simp only [Value.slice.injEq] at e
  obtain ⟨rfl, _, _⟩ := e
  have hl : ((l.drop p).take n).length = n := by simp; omega
  refine ⟨some ⟨ab, aoff + p, none⟩, c, by rw [hl], fun i hi => ⟨ab, aoff + p, rfl, ?_⟩⟩
  rw [hl] at hi
  obtain ⟨b', off', e', hcell⟩ := hc (p + i) (by omega)
  cases e'
  rw [show aoff + p + i = aoff + (p + i) by omega, hcell]
  simp

theorem own_base {w : World} {b b' : Nat} {v : Value} {n : Nat} {xs : List Value} (h : w.ownsRow b' 5 1 v n xs) (hb : b ≤ b') : w.ownsRow b 5 1 v n xs := by
  obtain ⟨hl, h⟩ := h
  refine ⟨hl, ?_⟩
  rcases h with h | ⟨g, cap, cur, hv, hg, h⟩
  · exact .inl h
  · exact .inr ⟨g, cap, cur, hv, Nat.le_trans hb hg, h⟩

set_option maxRecDepth 100000 in
set_option maxHeartbeats 400000 in
theorem open_any (ao : Option Addr) (cap : Nat) (l : List UInt8) (w : World) (hv : BytesAt w (.slice ao l.length cap) l) (hcap : l.length ≤ cap) (h4 : 4 ≤ l.length) (h256 : l.length ≤ 256) : Calls Tryd.prog 10 #[.slice ao l.length cap] w fun e w' => (opCode l = 0 → OpenOk w l e w') ∧ (opCode l ≠ 0 → OpenNo w l.length (opCode l) e w') := by
  have HC : Hid (opCode l = if (l.drop (l.length - 2) == sumB (l.take (l.length - 2))) = false then 5 else 0) := Lib.hid (by unfold opCode; rw [if_neg (by omega), if_neg (by omega)])
  obtain ⟨ao', cap', e, hc⟩ := id hv
  simp only [Value.slice.injEq] at e
  obtain ⟨rfl, _, rfl⟩ := e
  obtain ⟨ab, aoff, rfl, c0⟩ := hc 0 (by omega)
  have hd : l.headD 0 = l[0] := by cases l with | nil => simp at h4 | cons x l => rfl
  have HV := Lib.hid hv
  obtain ⟨n, hn⟩ : ∃ n : Nat, n = l.length - 2 := ⟨_, rfl⟩
  have P1 : Hid (∀ c, BytesAt w (.slice (some ⟨ab, aoff + n, none⟩) 2 c) (l.drop n)) := Lib.hid fun c => by
    have := part_at hv n 2 c (by omega)
    rwa [List.take_of_length_le (by rw [List.length_drop]; omega)] at this
  have P2 : Hid (∀ c, BytesAt w (.slice (some ⟨ab, aoff, none⟩) n c) (l.take n)) := Lib.hid fun c => by
    have := part_at hv 0 n c (by omega)
    rwa [List.drop_zero, Nat.add_zero] at this
  have P3 : Hid (∀ c, BytesAt w (.slice (some ⟨ab, aoff + 1, none⟩) (n - 1) c) ((l.drop 1).take (n - 1))) := Lib.hid fun c => part_at hv 1 (n - 1) c (by omega)
  have P4 : Hid (∀ (v : Value) (W : World), W.ownsRow w.heap.size 5 1 v ((l.drop 1).take (n - 1)).length (bcells ((l.drop 1).take (n - 1))) → W.ownsRow w.heap.size 5 1 v (l.length - 3) (bcells ((l.drop 1).take (l.length - 3)))) := Lib.hid fun v W h => by
    rwa [show ((l.drop 1).take (n - 1)).length = l.length - 3 by simp; omega, show n - 1 = l.length - 3 by omega] at h
  have P5 : Hid (((l.drop 1).take (n - 1)).length ≤ 256) := Lib.hid (by simp; omega)
  have P6 : Hid ((l.take n).length ≤ 256) := Lib.hid (by simp; omega)
  have P7 : Hid (((l.drop 1).take (n - 1)).length = n - 1) := Lib.hid (by simp; omega)
  have HH : Hid (((l.headD 0).toNat : Int) = (l[0].toNat : Int)) := Lib.hid (by rw [hd])
  have b0 := byte_lt l[0]
  have hi : (opCode l = if (l.drop n == sumB (l.take n)) = false then 5 else 0) := by rw [HC.out, ← hn]
  have HI := Lib.hid hi
  obtain ⟨L, hL⟩ : ∃ L, L = l.length := ⟨_, rfl⟩
  have hn2 : (L : Int) - 2 = (n : Int) := by omega
  have hn3 : n + 2 = L := by omega
  have hn4 : 2 ≤ n := by omega
  rw [← hL] at h4 h256 hcap ⊢
  have HL := Lib.hid hL
  rw [Nat.add_zero] at c0
  generalize (l[0]'(by omega)).toNat = z0 at *
  clear hv hc hL hd HC hi hn
  go_enter Tryd.func10, Tryd.ntmps10
  go_wp2_with fail
  have i0 : (0 : Int) ≤ (n : Int) := by omega
  have i1 : (n : Int) ≤ (L : Int) := by omega
  have i2 : (L : Int) ≤ (cap : Int) := by omega
  have i3 : (n : Int) ≤ (cap : Int) := by omega
  have i4 : n < cap := by omega
  have i5 : n ≤ L := by omega
  have i6 : n ≤ cap := by omega
  have i7 : ¬ cap = n := by omega
  have i8 : L - n = 2 := by omega
  have i9 : ¬ cap = 0 := by omega
  have i10 : 0 < cap := by omega
  have BD : Hid (Below w.heap.size w w.drew) := Lib.hid (Below.refl _ w).drew
  go_region_held3 (fun _ => True) (trivial)
    (first
      | (go_at_call 26; refine (sum_any _ (l.take n) _ ((P2.out _).on BD.out) (by have := P6.out; unfold maxLen; omega)).mono ?_; rintro e w1 ⟨v1, rfl, ho, hb⟩; have HO1 := Lib.hid ho; have HB1 : Hid (Below w.heap.size w w1) := Lib.hid (BD.out.trans hb); clear ho hb; simp only [])
      | (go_at_call 29; refine (bequal_any _ _ _ _ _ ((P1.out _).on HB1.out) (bytesAt_own HO1.out)).mono ?_; rintro e w2 ⟨rfl, rfl⟩; simp only []))
  have HB2 := HB1
  clear HB2
  rcases Bool.eq_false_or_eq_true (l.drop n == sumB (l.take n)) with eq | eq
  · have HO : Hid (opCode l = 0) := Lib.hid (by rw [HI.out, eq]; rfl)
    rw [eq]
    go_wp2_with fail
    have c1 : w1.cell? ⟨ab, aoff, none⟩ = some (.int .u8 (z0 : Int)) := (HB1.out.cell (lt_cell c0)).trans c0
    have BD1 : Hid (Below w1.heap.size w1 w1.drew) := Lib.hid (Below.refl _ w1).drew
    have hs1 := Lib.hid HB1.out.size
    have j1 : (1 : Int) ≤ (n : Int) := by omega
    have j2 : 1 < cap := by omega
    have j3 : ¬ cap = 1 := by omega
    have j4 : 1 ≤ n := by omega
    have j5 : 1 ≤ cap := by omega
    have j6 : 0 < L := by omega
    have j7 : (0 : Int) < (L : Int) := by omega
    have j8 : IntKind.i64.wrap (z0 : Int) = (z0 : Int) := by rw [IntKind.wrap_i64]; omega
    clear c0
    go_region_held3 (fun w' => w'.cell? ⟨ab, aoff, none⟩ = some (.int .u8 (z0 : Int)))
      (first | exact c1 | exact d1 | go_keep)
      ((go_at_call 30; refine (clone_any _ ((l.drop 1).take (n - 1)) _ (((P3.out _).on HB1.out).on BD1.out) (by have := P5.out; omega)).mono ?_; rintro e w2 ⟨v2, rfl, ho, hb⟩; have HO2 : Hid (w2.ownsRow w.heap.size 5 1 v2 (l.length - 3) (bcells ((l.drop 1).take (l.length - 3)))) := Lib.hid (P4.out _ _ (own_base ho (by have := hs1.out; simp; omega))); have HB2 : Hid (Below w.heap.size w w2) := Lib.hid ((HB1.out.trans ((BD1.out.trans hb).mono HB1.out.size))); have d1 := ((BD1.out.trans hb).cell (lt_cell c1)).trans c1; clear ho hb; simp only []))
    have HR : Hid (OpenOk w l (.returned (.tuple #[.int .i64 (z0 : Int), v2, .nilIface])) w2) := Lib.hid ⟨_, by rw [HH.out], HO2.out, HB2.out⟩
    obtain ⟨a2, k2, rfl⟩ := row_form HO2.out
    clear d1 c1
    go_wp2
    go_ret3
    exact ⟨fun _ => HR.out, fun h => absurd HO.out h⟩
  · have HO : Hid (opCode l = 5) := Lib.hid (by rw [HI.out, eq]; rfl)
    rw [eq]
    go_wp2_with fail
    refine (rfault_any (L : Int) 5 w1).mono ?_
    rintro e w2 ⟨⟨x, rfl, hx⟩, hb⟩
    obtain ⟨bx, rfl⟩ := hx.form
    have HR : Hid (OpenNo w (L : Int) (opCode l) (.returned (.tuple #[.int .i64 0, .slice none 0 0, .iface 76 (.pointer (some ⟨bx, 0, none⟩))])) w2) := Lib.hid ⟨_, rfl, by rw [HO.out]; exact hx, HB1.out.trans (hb.mono HB1.out.size)⟩
    clear hx hb
    go_wp2
    go_ret3
    exact ⟨fun h => absurd (HO.out.symm.trans h) (by decide), fun _ => HR.out⟩
end Go.Proofs.YthcehcfeedikkaaDoor
