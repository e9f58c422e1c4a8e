/- yardlaw3.CrcSteps, CrcTables, CrcLinear answer true for every number and byte; memory that was there stands. -/
import Derived.Test.YtdmbdbonmnkjlaaFirst
import Derived.Deep.RegionHeld3
import Derived.Deep.Draws
namespace Go.Proofs.Ytdmbdbonmnkjlaa
open Go.RowKit

theorem below_drew (w : World) (n : Nat) : Below w.heap.size w (w.drewN n) := ⟨rfl, rfl, rfl, Nat.le_refl _, fun _ _ => rfl⟩
theorem below_drewN {B : Nat} {a w : World} (h : Below B a w) (n : Nat) : Below B a (w.drewN n) := ⟨h.os, h.tape, h.output, h.size, h.block⟩
theorem ret_dec {p : Prop} [Decidable p] (h : p) : Ending.returned (.bool (decide p)) = .returned (.bool true) := by rw [decide_eq_true h]

set_option maxRecDepth 100000 in
set_option maxHeartbeats 1000000 in
theorem steps_any (p s : Int) (b : Nat) (hb : b < 256) (w : World) : Calls Try.prog 4 #[.int .i64 p, .int .i64 s, .int .u8 (b : Int)] w fun e w' => e = .returned (.bool true) ∧ Below w.heap.size w w' := by
  have b0 : (0 : Int) ≤ (b : Int) := by omega
  have b1 : (b : Int) < 256 := by omega
  go_enter Try.func4, Try.ntmps4
  go_wp2_with fail
  refine (first_any w).mono ?_
  rintro e w1 ⟨rfl, h⟩
  have HB1 := Lib.hid h
  clear h
  go_wp2_with fail
  refine (Table_any p w1).mono ?_
  rintro e w2 ⟨rfl, ht, h⟩
  have HT2 := Lib.hid ht
  have HB2 := Lib.hid (HB1.out.trans (h.mono HB1.out.size))
  clear h ht
  go_wp2_with fail
  have c2 : w2.cell? ⟨w1.heap.size, b, none⟩ = some (.int .i64 ((stepN (lo p) (lo 0) b : Nat) : Int)) := HT2.out.cell hb
  go_region_held3 (fun w' => w'.cell? ⟨w1.heap.size, b, none⟩ = some (.int .i64 ((stepN (lo p) (lo 0) b : Nat) : Int)))
    (first
      | exact c2
      | exact c3
      | go_keep)
    (first
      | (go_at_call 11; refine (first_any _).mono ?_; rintro e w3 ⟨rfl, h⟩; have c3 : w3.cell? ⟨w1.heap.size, b, none⟩ = some (.int .i64 ((stepN (lo p) (lo 0) b : Nat) : Int)) := (HT2.out.on ((below_drew w2 1).trans h)).cell hb; have HB3 := Lib.hid ((below_drewN HB2.out 1).trans (h.mono HB2.out.size)); clear h; simp only [])
      | (go_at_call 19; refine (Step_any _ _ _ _ hb).mono ?_; rintro e w4 ⟨rfl, h4⟩; subst h4; simp only [])
      | (go_at_call 20; refine (refStep_any _ _ _ _ hb).mono ?_; rintro e w4 ⟨rfl, h4⟩; subst h4; simp only []))
  all_goals
    go_wp2
    go_ret
    exact ⟨rfl, HB3.out⟩

set_option maxRecDepth 100000 in
set_option maxHeartbeats 1000000 in
theorem tables_any (p s : Int) (b : Nat) (hb : b < 256) (w : World) : Calls Try.prog 5 #[.int .i64 p, .int .i64 s, .int .u8 (b : Int)] w fun e w' => e = .returned (.bool true) ∧ Below w.heap.size w w' := by
  have h1 := and_lo s
  have h2 : bits .xor .i64 ((lo s : Nat) : Int) (b : Int) = ((lo s ^^^ b : Nat) : Int) := xor_nat _ _ (lo_lt s) (by omega)
  have h3 := and_255 _ (xor_lt (lo_lt s) (show b < 65536 by omega))
  have h4 := stepN_lt (lo_lt p) (show (0 : Nat) < 65536 by omega) (show (lo s ^^^ b) % 256 < 65536 by omega)
  have h5 := lo_lt s
  have h6 := stepN_lt (lo_lt p) (lo_lt s) (show b < 65536 by omega)
  have h7 : bits .xor .i64 ((stepN (lo p) 0 ((lo s ^^^ b) % 256) : Nat) : Int) ((lo s : Int) / 256) = ((stepN (lo p) (lo s) b : Nat) : Int) := by
    rw [stepN_table (lo p) (lo s) b hb]
    exact xor_nat _ (lo s / 256) h4 (by omega)
  have h8 : (lo s ^^^ b) % 256 < 256 := Nat.mod_lt _ (by omega)
  go_enter Try.func5, Try.ntmps5
  go_wp2_with fail
  refine (first_any w).mono ?_
  rintro e w1 ⟨rfl, h⟩
  have HB1 := Lib.hid h
  clear h
  go_wp2_with fail
  refine (Table_any p w1).mono ?_
  rintro e w2 ⟨rfl, ht, h⟩
  have HT2 := Lib.hid ht
  have HB2 := Lib.hid (HB1.out.trans (h.mono HB1.out.size))
  clear h ht
  go_wp2_with fail
  refine (Step_any p s b w2 hb).mono ?_
  rintro e w4 ⟨rfl, rfl⟩
  go_wp2_with fail
  refine (first_any w2).mono ?_
  rintro e w3 ⟨rfl, h⟩
  have HT3 := HT2.out.on h
  have HB3 := Lib.hid (HB2.out.trans (h.mono HB2.out.size))
  have hcell := HT3.cell h8
  clear h HT3
  go_wp2
  go_ret
  exact ⟨ret_dec (by omega), HB3.out⟩
end Go.Proofs.Ytdmbdbonmnkjlaa
