/- crc.shiftBit, shiftOut, step, Step, and the document's Step: what each returns, for every argument; memory stands. -/
import Derived.Test.YtpocjmlkhophoaaGreatDoorProg
import Derived.Test.YtpocjmlkhophoaaGreatDoorCPure
import Derived.WalkKit
import Derived.WalkSpells
import Derived.Outline
import Derived.Lib.Hide
namespace Go.Proofs.YtpocjmlkhophoaaGreatDoor
open Go.RowKit

set_option maxHeartbeats 400000 in
theorem shiftBit_any (p s : Nat) (w : World) (hp : p < 65536) (hs : s < 65536) : Calls Tryz.prog 170 #[.int .u16 (p : Int), .int .u16 (s : Int)] w fun e w' => e = .returned (.int .u16 ((bit1 p s : Nat) : Int)) ∧ w = w' := by
  have a1 := and16_one s hs
  have hx : bits .xor .u16 ((s : Int) / 2) (p : Int) = ((s / 2 ^^^ p : Nat) : Int) := u16_xor_nat (s / 2) p (by omega) hp
  have HX := Lib.hid hx
  clear hx
  by_cases h : s % 2 = 1
  · have hb : (((s % 2 : Nat) : Int) == 1) = true := beq_iff_eq.2 (by omega)
    have e : bit1 p s = s / 2 ^^^ p := if_pos h
    have E := Lib.hid e
    clear e h
    go_enter Tryz.func170, Tryz.ntmps170
    go_wp2
    go_ret
    rw [HX.out, E.out]
    exact ⟨rfl, rfl⟩
  · have hb : (((s % 2 : Nat) : Int) == 1) = false := beq_eq_false_iff_ne.2 (by omega)
    have e : bit1 p s = s / 2 := if_neg h
    have E := Lib.hid e
    clear e h
    go_enter Tryz.func170, Tryz.ntmps170
    go_wp2
    go_ret
    rw [E.out]
    exact ⟨rfl, rfl⟩

set_option maxHeartbeats 1000000 in
theorem shiftOut_any (p s : Nat) (w : World) (hp : p < 65536) (hs : s < 65536) : Calls Tryz.prog 161 #[.int .u16 (p : Int), .int .u16 (s : Int), .int .i64 8] w fun e w' => e = .returned (.int .u16 ((bits8 p s : Nat) : Int)) ∧ w = w' := by
  have l1 := bit1_lt hp hs
  have l2 := bit1_lt hp l1
  have l3 := bit1_lt hp l2
  have l4 := bit1_lt hp l3
  have l5 := bit1_lt hp l4
  have l6 := bit1_lt hp l5
  have l7 := bit1_lt hp l6
  go_enter Tryz.func161, Tryz.ntmps161
  go_wp2_with fail
  refine (shiftBit_any p s w hp hs).mono ?_
  rintro e w' ⟨rfl, rfl⟩
  go_wp2_with fail
  refine (shiftBit_any p _ w hp l1).mono ?_
  rintro e w' ⟨rfl, rfl⟩
  go_wp2_with fail
  refine (shiftBit_any p _ w hp l2).mono ?_
  rintro e w' ⟨rfl, rfl⟩
  go_wp2_with fail
  refine (shiftBit_any p _ w hp l3).mono ?_
  rintro e w' ⟨rfl, rfl⟩
  go_wp2_with fail
  refine (shiftBit_any p _ w hp l4).mono ?_
  rintro e w' ⟨rfl, rfl⟩
  go_wp2_with fail
  refine (shiftBit_any p _ w hp l5).mono ?_
  rintro e w' ⟨rfl, rfl⟩
  go_wp2_with fail
  refine (shiftBit_any p _ w hp l6).mono ?_
  rintro e w' ⟨rfl, rfl⟩
  go_wp2_with fail
  refine (shiftBit_any p _ w hp l7).mono ?_
  rintro e w' ⟨rfl, rfl⟩
  go_wp2
  go_ret
  exact ⟨rfl, rfl⟩

theorem wrapb (b : Nat) (hb : b < 256) : IntKind.u16.wrap (b : Int) = (b : Int) := by rw [IntKind.wrap_u16]; omega

set_option maxHeartbeats 400000 in
theorem step_any (p s b : Nat) (w : World) (hp : p < 65536) (hs : s < 65536) (hb : b < 256) : Calls Tryz.prog 132 #[.int .u16 (p : Int), .int .u16 (s : Int), .int .u8 (b : Int)] w fun e w' => e = .returned (.int .u16 ((stepN p s b : Nat) : Int)) ∧ w = w' := by
  have hw := wrapb b hb
  have hx : bits .xor .u16 (s : Int) (b : Int) = ((s ^^^ b : Nat) : Int) := u16_xor_nat s b hs (by omega)
  go_enter Tryz.func132, Tryz.ntmps132
  go_wp2_with fail
  refine (shiftOut_any p (s ^^^ b) w hp (xor_lt hs (by omega))).mono ?_
  rintro e w' ⟨rfl, rfl⟩
  go_wp2
  go_ret
  exact ⟨rfl, rfl⟩

end Go.Proofs.YtpocjmlkhophoaaGreatDoor
