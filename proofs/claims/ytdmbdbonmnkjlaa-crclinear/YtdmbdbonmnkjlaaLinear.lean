/- yardlaw3.CrcLinear answers true for every number and byte; memory that was there stands. -/
import Derived.Test.YtdmbdbonmnkjlaaSteps
namespace Go.Proofs.Ytdmbdbonmnkjlaa
open Go.RowKit

theorem xor_lt8 {a b : Nat} (ha : a < 256) (hb : b < 256) : a ^^^ b < 256 := Nat.xor_lt_two_pow (n := 8) ha hb

/-- the four rows that are read. -/
def Four (w : World) (g a b c : Nat) (A B C : Nat) : Prop :=
  w.cell? ⟨g, a, none⟩ = some (.int .i64 (A : Int)) ∧ w.cell? ⟨g, b, none⟩ = some (.int .i64 (B : Int)) ∧ w.cell? ⟨g, c, none⟩ = some (.int .i64 (C : Int)) ∧ w.cell? ⟨g, 0, none⟩ = some (.int .i64 0)
theorem four_of {w : World} {g : Nat} {p : Int} (h : TabAt w g p) {a b c : Nat} (ha : a < 256) (hb : b < 256) (hc : c < 256) : Four w g a b c (stepN (lo p) 0 a) (stepN (lo p) 0 b) (stepN (lo p) 0 c) :=
  ⟨h.cell ha, h.cell hb, h.cell hc, (h.cell (show 0 < 256 by omega)).trans (by rw [stepN_zero]; rfl)⟩

set_option maxRecDepth 100000 in
set_option maxHeartbeats 8000000 in
theorem linear_letters (p s t : Int) (a b c A B C D E F : Nat) (w : World) (ha : a < 256) (hb : b < 256) (hc : c < 256)
    (hab : bits .xor .u8 (a : Int) (b : Int) = (c : Int)) (hx : bits .xor .i64 (D : Int) (E : Int) = (F : Int)) (hy : bits .xor .i64 (A : Int) (B : Int) = (C : Int))
    (hA : stepN (lo p) 0 a = A) (hB : stepN (lo p) 0 b = B) (hC : stepN (lo p) 0 c = C) (hD : stepN (lo p) (lo s) a = D) (hE : stepN (lo p) (lo t) b = E) (hF : stepN (lo p) (lo (bits .xor .i64 s t)) c = F) : Calls Try.prog 7 #[.int .i64 p, .int .i64 s, .int .i64 t, .int .u8 (a : Int), .int .u8 (b : Int)] w fun e w' => e = .returned (.bool true) ∧ Below w.heap.size w w' := by
  have a0 : (0 : Int) ≤ (a : Int) := by omega
  have a1 : (a : Int) < 256 := by omega
  have b0 : (0 : Int) ≤ (b : Int) := by omega
  have b1 : (b : Int) < 256 := by omega
  have c0 : (0 : Int) ≤ (c : Int) := by omega
  have c1 : (c : Int) < 256 := by omega
  have HA := Lib.hid (And.intro hA (And.intro hB hC))
  have HD := Lib.hid hD
  have HE := Lib.hid hE
  have HF := Lib.hid hF
  have Z : Hid (stepN (lo p) (lo 0) 0 = 0) := Lib.hid (stepN_zero _)
  clear hA hB hC hD hE hF
  go_enter Try.func7, Try.ntmps7
  go_wp2_with fail
  refine (first_any w).mono ?_
  rintro e w1 ⟨rfl, h⟩
  have HB1 := Lib.hid h
  clear h
  go_wp2_with fail
  refine (Step_any p s a w1 ha).mono ?_
  rintro e w2 ⟨rfl, rfl⟩
  rw [HD.out]
  go_wp2_with fail
  refine (Step_any p t b w1 hb).mono ?_
  rintro e w2 ⟨rfl, rfl⟩
  rw [HE.out]
  go_wp2_with fail
  refine (Table_any p w1).mono ?_
  rintro e w2 ⟨rfl, ht, h⟩
  have HT2 := Lib.hid ht
  have HB2 := Lib.hid (HB1.out.trans (h.mono HB1.out.size))
  clear h ht
  go_wp2_with fail
  obtain ⟨k1, k2, k3, k4⟩ := four_of HT2.out ha hb hc
  rw [HA.out.1] at k1
  rw [HA.out.2.1] at k2
  rw [HA.out.2.2] at k3
  generalize hg : w1.heap.size = g at *
  clear hg
  go_region_held3 (fun w' => w'.cell? ⟨g, a, none⟩ = some (.int .i64 (A : Int)) ∧ w'.cell? ⟨g, b, none⟩ = some (.int .i64 (B : Int)) ∧ w'.cell? ⟨g, c, none⟩ = some (.int .i64 (C : Int)) ∧ w'.cell? ⟨g, 0, none⟩ = some (.int .i64 0))
    (first
      | exact ⟨k1, k2, k3, k4⟩
      | exact ⟨j1, j2, j3, j4⟩
      | go_keep)
    (first
      | (go_at_call 11; refine (first_any _).mono ?_; rintro e w3 ⟨rfl, h⟩; have HT3 := HT2.out.on ((below_drew w2 1).trans h); obtain ⟨j1, j2, j3, j4⟩ := four_of HT3 ha hb hc; rw [HA.out.1] at j1; rw [HA.out.2.1] at j2; rw [HA.out.2.2] at j3; have HB3 := Lib.hid ((below_drewN HB2.out 1).trans (h.mono HB2.out.size)); clear h HT3; simp only [])
      | (go_at_call_of 19 (Value.int IntKind.i64 0); refine (Step_any _ 0 0 _ (by omega)).mono ?_; rintro e w4 ⟨rfl, h4⟩; subst h4; rw [Z.out]; simp only [])
      | (go_at_call 19; refine (Step_any _ _ c _ hc).mono ?_; rintro e w4 ⟨rfl, h4⟩; subst h4; rw [HF.out]; simp only []))
  all_goals
    go_wp2
    go_ret
    exact ⟨rfl, HB3.out⟩
theorem linear_any (p s t : Int) (a b : Nat) (ha : a < 256) (hb : b < 256) (w : World) : Calls Try.prog 7 #[.int .i64 p, .int .i64 s, .int .i64 t, .int .u8 (a : Int), .int .u8 (b : Int)] w fun e w' => e = .returned (.bool true) ∧ Below w.heap.size w w' := by
  refine linear_letters p s t a b (a ^^^ b) _ _ _ _ _ _ w ha hb (xor_lt8 ha hb) (u8_xor_nat a b ha hb) ?_ ?_ rfl rfl rfl rfl rfl rfl
  · rw [xor_nat _ _ (stepN_lt (lo_lt p) (lo_lt s) (by omega)) (stepN_lt (lo_lt p) (lo_lt t) (by omega)), xor_lo, stepN_xor]
  · rw [xor_nat _ _ (stepN_lt (lo_lt p) (by omega) (by omega)) (stepN_lt (lo_lt p) (by omega) (by omega)), ← stepN_xor]
    rfl
end Go.Proofs.Ytdmbdbonmnkjlaa
