/- yardlaw3.first answers true; all older memory stands. -/
import Derived.Test.YtdmbdbonmnkjlaaByt
import Derived.Lib.SlBytesConst
namespace Go.Proofs.Ytdmbdbonmnkjlaa
open Go.RowKit

def nine : List UInt8 := [49, 50, 51, 52, 53, 54, 55, 56, 57]
theorem mod9 : modN nine = 19255 := by decide +kernel
theorem dnp9 : dnpN nine = 60034 := by decide +kernel
theorem mod0 : modN [] = 65535 := by decide +kernel
theorem dnp0 : dnpN [] = 65535 := by decide +kernel
theorem nilAt (w : World) (c : Nat) : BytesAt w (.slice none 0 c) [] := ⟨none, c, rfl, fun i hi => by simp at hi⟩
theorem below_new (w : World) (o : Obj) : Below w.heap.size w (w.alloc o) := (Below.refl _ w).alloc (Nat.le_refl _) _

theorem cell_marked (w : World) (C : Array Value) (fr : Nat × Nat) (i : Nat) (v : Value) (h : C[i]? = some v) : (w.alloc (.cells C 5 fr)).cell? ⟨w.heap.size, i, none⟩ = some v := by
  have hb : (w.alloc (.cells C 5 fr)).heap[w.heap.size]? = some (.cells C 5 fr) := heap_alloc_new w _
  simp only [World.cell?, hb]
  exact h
theorem nineAt (w : World) : BytesAt (w.alloc (.cells #[.int .u8 49, .int .u8 50, .int .u8 51, .int .u8 52, .int .u8 53, .int .u8 54, .int .u8 55, .int .u8 56, .int .u8 57] 5 (9, 10))) (.slice (some ⟨w.heap.size, 0, none⟩) 9 9) nine := by
  refine ⟨some ⟨w.heap.size, 0, none⟩, 9, rfl, fun i hi => ⟨w.heap.size, 0, rfl, ?_⟩⟩
  match i, hi with
  | 0, _ => exact cell_marked _ _ _ _ _ rfl
  | 1, _ => exact cell_marked _ _ _ _ _ rfl
  | 2, _ => exact cell_marked _ _ _ _ _ rfl
  | 3, _ => exact cell_marked _ _ _ _ _ rfl
  | 4, _ => exact cell_marked _ _ _ _ _ rfl
  | 5, _ => exact cell_marked _ _ _ _ _ rfl
  | 6, _ => exact cell_marked _ _ _ _ _ rfl
  | 7, _ => exact cell_marked _ _ _ _ _ rfl
  | 8, _ => exact cell_marked _ _ _ _ _ rfl
  | i + 9, hi => exact absurd hi (by simp [nine])
set_option maxRecDepth 100000 in
set_option maxHeartbeats 1000000 in
theorem first_any (w : World) : Calls Try.prog 11 #[] w fun e w' => e = .returned (.bool true) ∧ Below w.heap.size w w' := by
  have kc := fun (w : World) (C : Array Value) (n c : Nat) => Lib.run_convert_bytes_const (P := Try.prog) w 22 5 C n c Try.underlying22 Try.underlying5
  have HN := Lib.hid (nineAt w)
  have HB := Lib.hid (below_new w (.cells #[.int .u8 49, .int .u8 50, .int .u8 51, .int .u8 52, .int .u8 53, .int .u8 54, .int .u8 55, .int .u8 56, .int .u8 57] 5 (9, 10)))
  go_enter Try.func11, Try.ntmps11
  go_wp2_with fail
  refine (Modbus_any _ nine _ HN.out (by decide)).mono ?_
  rintro e w1 ⟨rfl, rfl⟩
  rw [mod9]
  go_wp2_with fail
  refine (Dnp_any _ nine _ HN.out (by decide)).mono ?_
  rintro e w1 ⟨rfl, rfl⟩
  rw [dnp9]
  go_wp2_with fail
  refine (Modbus_any _ [] _ (nilAt _ _) (by decide)).mono ?_
  rintro e w1 ⟨rfl, rfl⟩
  rw [mod0]
  go_wp2_with fail
  refine (Dnp_any _ [] _ (nilAt _ _) (by decide)).mono ?_
  rintro e w1 ⟨rfl, rfl⟩
  rw [dnp0]
  go_wp2_with fail
  refine (Table_any 40961 _).mono ?_
  rintro e w2 ⟨rfl, _, hb⟩
  have HB2 := Lib.hid (HB.out.trans (hb.mono HB.out.size))
  clear hb
  go_wp2
  go_ret
  exact ⟨rfl, HB2.out⟩
end Go.Proofs.Ytdmbdbonmnkjlaa
