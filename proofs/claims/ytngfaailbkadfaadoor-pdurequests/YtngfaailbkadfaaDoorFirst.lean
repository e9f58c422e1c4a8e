/- yardlaw7.first answers true; Encode, Decode, Answer and Read as one contract each. -/
import Derived.Test.YtngfaailbkadfaaDoorRdrOk
import Derived.Test.YtngfaailbkadfaaDoorRdrForm
namespace Go.Proofs.YtngfaailbkadfaaDoor
open Go.RowKit Go.Extern.Stop Go.Stop Go.Extern
set_option maxRecDepth 100000

theorem ints_nil (w : World) : IntsAt w (.slice none 0 0) [] := ⟨none, 0, rfl, fun i hi => by simp at hi⟩
def rOne : Rq := ⟨3, 107, 3, []⟩
def rTwo : Rq := ⟨15, 19, 10, [1, 0, 1, 1, 0, 0, 1, 1, 1, 0]⟩
theorem rOne_may : rOne.may = true := by decide +kernel
theorem rTwo_may : rTwo.may = true := by decide +kernel
theorem rOne_enc : encF rOne = [3, 0, 107, 0, 3] := by decide +kernel
theorem rTwo_enc : encF rTwo = [15, 0, 19, 0, 10, 2, 205, 1] := by decide +kernel
theorem rOne_parse : (parseR rOne [131, 2]).code = 2 ∧ (parseR rOne [131, 2]).vs = [] := by decide +kernel
theorem rOne_read : readB rOne [131, 2] = true := by decide +kernel
theorem lit2 (w : World) (x y : UInt8) : BytesAt (w.alloc (.cells #[.int .u8 (x.toNat : Int), .int .u8 (y.toNat : Int)] 5)) (.slice (some ⟨w.heap.size, 0, none⟩) 2 2) [x, y] := by
  refine ⟨some ⟨w.heap.size, 0, none⟩, 2, rfl, fun i hi => ⟨w.heap.size, 0, rfl, ?_⟩⟩
  match i, hi with
  | 0, _ => simp
  | 1, _ => simp
  | i + 2, hi => exact absurd hi (by simp)
theorem ints_ten (w : World) : IntsAt (w.alloc (.cells #[.int .i64 1, .int .i64 0, .int .i64 1, .int .i64 1, .int .i64 0, .int .i64 0, .int .i64 1, .int .i64 1, .int .i64 1, .int .i64 0] 3)) (.slice (some ⟨w.heap.size, 0, none⟩) 10 10) [1, 0, 1, 1, 0, 0, 1, 1, 1, 0] :=
  intsAt_own (base := w.heap.size) (l := [1, 0, 1, 1, 0, 0, 1, 1, 1, 0]) (World.ownsRow_lit w #[.int .i64 1, .int .i64 0, .int .i64 1, .int .i64 1, .int .i64 0, .int .i64 0, .int .i64 1, .int .i64 1, .int .i64 1, .int .i64 0] 10 (Nat.le_refl _) (by unfold maxLen; omega) (by simp))

set_option maxRecDepth 100000 in
set_option maxHeartbeats 4000000 in
theorem first_any (w : World) : Calls Tryd.prog 5 #[] w fun e w' => e = .returned (.bool true) ∧ Below w.heap.size w w' := by
  obtain ⟨wx, hwx⟩ : ∃ wx, wx = w.alloc (.cells #[.int .i64 3, .int .i64 107, .int .i64 3, .slice none 0 0] 24) := ⟨_, rfl⟩
  have X0 : Hid (Below w.heap.size w wx) := Lib.hid (by rw [hwx]; exact below_new w _)
  have B0 : Hid (BoxR wx w.heap.size 3 107 3 (.slice none 0 0)) := Lib.hid (by rw [hwx]; exact heap_alloc_new w _)
  go_enter Tryd.func5, Tryd.ntmps5
  go_wp2_with fail
  rw [← hwx]
  clear hwx
  refine (enc_ok rOne (.slice none 0 0) wx (ints_nil wx) rOne_may (by simp [rOne])).mono ?_
  rintro e w1 ⟨x1, rfl, hx, hb⟩
  rw [rOne_enc] at hx
  obtain ⟨a1, k1, rfl, _⟩ := bytesAt_own hx
  have Z1 := Lib.hid (bytesAt_own hx)
  have X1 := Lib.hid hb
  have B1 := Lib.hid (B0.out.on hb)
  clear hx hb
  go_wp2_with fail
  obtain ⟨w2, hw2⟩ : ∃ x, x = w1.alloc (.cells #[.int .i64 1, .int .i64 0, .int .i64 1, .int .i64 1, .int .i64 0, .int .i64 0, .int .i64 1, .int .i64 1, .int .i64 1, .int .i64 0] 3) := ⟨_, rfl⟩
  have I2 : Hid (IntsAt w2 (.slice (some ⟨w1.heap.size, 0, none⟩) 10 10) [1, 0, 1, 1, 0, 0, 1, 1, 1, 0]) := Lib.hid (by rw [hw2]; exact ints_ten w1)
  have X2 : Hid (Below wx.heap.size wx w2) := Lib.hid (by rw [hw2]; exact X1.out.trans ((below_new w1 _).mono X1.out.size))
  have B2 : Hid (BoxR w2 w.heap.size 3 107 3 (.slice none 0 0)) := Lib.hid (by rw [hw2]; exact B1.out.on (below_new _ _))
  have Z2 : Hid (BytesAt w2 (.slice a1 5 k1) [3, 0, 107, 0, 3]) := Lib.hid (by rw [hw2]; exact Z1.out.on (below_new _ _))
  rw [← hw2]
  clear hw2
  refine (enc_ok rTwo _ w2 I2.out rTwo_may (by simp [rTwo])).mono ?_
  rintro e w3 ⟨x3, rfl, hx, hb⟩
  rw [rTwo_enc] at hx
  obtain ⟨a3, k3, rfl, _⟩ := bytesAt_own hx
  have Z3 := Lib.hid (bytesAt_own hx)
  have X3 := Lib.hid (X2.out.trans (hb.mono X2.out.size))
  have B3 := Lib.hid (B2.out.on hb)
  have Y3 := Lib.hid (Z2.out.on hb)
  clear hx hb
  obtain ⟨c0, c1, c2, c3⟩ := cells4 B3.out
  go_wp2_with fail
  obtain ⟨w4, hw4⟩ : ∃ x, x = w3.alloc (.cells #[.int .u8 131, .int .u8 2] 5) := ⟨_, rfl⟩
  have I4 : Hid (BytesAt w4 (.slice (some ⟨w3.heap.size, 0, none⟩) 2 2) [131, 2]) := Lib.hid (by rw [hw4]; exact lit2 w3 131 2)
  have X4 : Hid (Below wx.heap.size wx w4) := Lib.hid (by rw [hw4]; exact X3.out.trans ((below_new w3 _).mono X3.out.size))
  have Z4 : Hid (BytesAt w4 (.slice a3 8 k3) [15, 0, 19, 0, 10, 2, 205, 1]) := Lib.hid (by rw [hw4]; exact Z3.out.on (below_new _ _))
  have Y4 : Hid (BytesAt w4 (.slice a1 5 k1) [3, 0, 107, 0, 3]) := Lib.hid (by rw [hw4]; exact Y3.out.on (below_new _ _))
  rw [← hw4]
  clear hw4 c0 c1 c2 c3
  refine (read_ok rOne _ _ 131 [2] w4 (ints_nil w4) I4.out rOne_may (by simp [rOne]) (by simp) rOne_read (.inr (by decide +kernel))).mono ?_
  rintro e w5 ⟨x5, rfl, hx, hb⟩
  obtain ⟨p1, p2⟩ := rOne_parse
  generalize parseR rOne [131, 2] = q at *
  obtain ⟨code, vs⟩ := q
  dsimp only at p1 p2
  subst p1 p2
  obtain ⟨a5, k5, rfl⟩ := row_slice hx
  have X5 := Lib.hid (X0.out.trans ((X4.out.trans (hb.mono X4.out.size)).mono X0.out.size))
  have q1 := conv_bytes (w5.alloc (.cells #[.int .i64 2, .slice a5 0 k5] 52)) _ _ ((Y4.out.on hb).on (below_new _ _))
  have q2 := conv_bytes (w5.alloc (.cells #[.int .i64 2, .slice a5 0 k5] 52)) _ _ ((Z4.out.on hb).on (below_new _ _))
  clear hx hb
  unfold Rp.val
  dsimp only
  go_wp2
  go_ret
  exact ⟨rfl, X5.out.alloc (by have := X5.out.size; omega) _⟩
end Go.Proofs.YtngfaailbkadfaaDoor
