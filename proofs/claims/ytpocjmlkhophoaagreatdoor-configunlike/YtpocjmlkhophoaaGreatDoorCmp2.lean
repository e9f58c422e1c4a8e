/- yardref.Ints, samePoll, samePoint; config.numbersOf: what each answers; all older memory stands. -/
import Derived.Test.YtpocjmlkhophoaaGreatDoorCmp
import Derived.Test.YtpocjmlkhophoaaGreatDoorFin
import Derived.Test.YtpocjmlkhophoaaGreatDoorCk7
namespace Go.Proofs.YtpocjmlkhophoaaGreatDoor
open Go.RowKit Go.Extern.Stop Go.Stop Go.Extern

set_option maxRecDepth 100000 in
set_option maxHeartbeats 4000000 in
theorem ints_same (l m : List Int) (x y : Value) (w : World) (hx : LiesAt w x l.length (icells l)) (hy : LiesAt w y m.length (icells m)) (hl : l.length ≤ 1000) (hm : m.length ≤ 1000) : Calls Tryz.prog 69 #[x, y] w fun e w' => e = .returned (.bool (eqL intEq l m)) ∧ Below w.heap.size w w' := by
  have HX := Lib.hid hx
  have HY := Lib.hid hy
  obtain ⟨a1, q1, rfl, _⟩ := hx.form
  obtain ⟨a2, q2, rfl, _⟩ := hy.form
  have HL := Lib.hid (And.intro hl hm)
  clear hx hy hl hm
  by_cases hlen : l.length = m.length
  case neg =>
    have HR := Lib.hid (eqL_len intEq l m hlen)
    rw [HR.out]
    have hne : ((l.length : Int) != (m.length : Int)) = true := by simp; omega
    clear HR hlen
    go_enter Tryz.func69, Tryz.ntmps69
    go_wp2
    go_ret
    exact ⟨rfl, Below.refl _ _⟩
  have hne0 : ((l.length : Int) != (m.length : Int)) = false := by simp; omega
  have HLEN := Lib.hid hlen
  clear hlen
  go_enter Tryz.func69, Tryz.ntmps69
  go_wp2
  go_loopg [5] l.length (fun k s5 wr => ∃ i : Nat, i ≤ l.length ∧ k = l.length - i ∧ s5 = .int .i64 (i : Int) ∧ Hid (EqTo intEq l m i ∧ Below w.heap.size w wr))
  case atStart => exact ⟨0, Nat.zero_le _, rfl, rfl, Lib.hid ⟨eqTo_zero _ _ _, Below.refl _ _⟩⟩
  case round =>
    obtain ⟨i, hi, rfl, rfl, HI⟩ := hrel
    have HX := Lib.hid (HX.out.on HI.out.2)
    have HY := Lib.hid (HY.out.on HI.out.2)
    by_cases hlt : i < l.length
    · have hlt2 : i < m.length := by have := HLEN.out; omega
      obtain ⟨b1, o1, rfl, at1⟩ := lies_cells HX.out (icells_get l i hlt)
      obtain ⟨b2, o2, rfl, at2⟩ := lies_cells HY.out (icells_get m i hlt2)
      have p0 := at1 _ _ (icells_get l i hlt)
      have r0 := at2 _ _ (icells_get m i hlt2)
      clear at1 at2
      have HN : Hid (intEq l[i] m[i] = true → EqTo intEq l m (i + 1)) := Lib.hid (HI.out.1.next hlt hlt2)
      have HE : Hid (intEq l[i] m[i] = false → eqL intEq l m = false) := Lib.hid (eqL_ne intEq l m i hlt hlt2)
      have HB := Lib.hid HI.out.2
      have HJ := Lib.hid (show i < 1000000 by have := HL.out.1; omega)
      clear HI
      generalize l[i] = y at *
      generalize m[i] = z at *
      rcases Bool.eq_false_or_eq_true (intEq y z) with h0 | h0
      · have HN2 := Lib.hid (HN.out h0)
        clear HN HE
        have hyz : (y != z) = false := by simpa [intEq] using h0
        clear h0
        go_wp2
        go_quiet (fail)
        go_wp2
        go_roundg (l.length - (i + 1))
        case measure => omega
        case rel => exact ⟨i + 1, by omega, rfl, next_i64' i HJ.out, Lib.hid ⟨HN2.out, HB.out.trans ((below_drewN (Below.refl _ _) _).mono HB.out.size)⟩⟩
      · have HE2 := Lib.hid (HE.out h0)
        clear HN HE
        have hyz : (y != z) = true := by simpa [intEq] using h0
        clear h0
        go_wp2
        go_quiet (fail)
        go_wp2
        go_ret
        rw [HE2.out]
        exact ⟨rfl, HB.out.trans ((below_drewN (Below.refl _ _) _).mono HB.out.size)⟩
    · have HR := Lib.hid (HI.out.1.all hlt HLEN.out)
      go_wp2
      go_ret
      rw [HR.out]
      exact ⟨rfl, HI.out.2⟩
set_option maxRecDepth 100000 in
set_option maxHeartbeats 1000000 in
theorem polls_w0 (a b : Poll) (w : World)  (h0 : (a.slave == b.slave) = false) : Calls Tryz.prog 70 #[.agg #[.int .i64 a.slave, .int .i64 a.func, .int .i64 a.start, .int .i64 a.count, .int .i64 a.every], .agg #[.int .i64 b.slave, .int .i64 b.func, .int .i64 b.start, .int .i64 b.count, .int .i64 b.every]] w fun e w' => e = .returned (.bool (pollEq a b)) ∧ Below w.heap.size w w' := by
  have HR := Lib.hid (show pollEq a b = false by simp [pollEq, h0])
  have HB := Lib.hid ((below_new w (.cells #[.int .i64 a.slave, .int .i64 a.func, .int .i64 a.start, .int .i64 a.count, .int .i64 a.every] 68)).trans ((below_new (w.alloc (.cells #[.int .i64 a.slave, .int .i64 a.func, .int .i64 a.start, .int .i64 a.count, .int .i64 a.every] 68)) (.cells #[.int .i64 b.slave, .int .i64 b.func, .int .i64 b.start, .int .i64 b.count, .int .i64 b.every] 68)).mono (below_new w (.cells #[.int .i64 a.slave, .int .i64 a.func, .int .i64 a.start, .int .i64 a.count, .int .i64 a.every] 68)).size))
  rw [HR.out]
  clear HR
  go_enter Tryz.func70, Tryz.ntmps70
  go_wp2
  go_ret
  exact ⟨rfl, HB.out⟩
set_option maxRecDepth 100000 in
set_option maxHeartbeats 1000000 in
theorem polls_w1 (a b : Poll) (w : World) (h0 : (a.slave == b.slave) = true) (h1 : (a.func == b.func) = false) : Calls Tryz.prog 70 #[.agg #[.int .i64 a.slave, .int .i64 a.func, .int .i64 a.start, .int .i64 a.count, .int .i64 a.every], .agg #[.int .i64 b.slave, .int .i64 b.func, .int .i64 b.start, .int .i64 b.count, .int .i64 b.every]] w fun e w' => e = .returned (.bool (pollEq a b)) ∧ Below w.heap.size w w' := by
  have HR := Lib.hid (show pollEq a b = false by simp [pollEq, h0, h1])
  have HB := Lib.hid ((below_new w (.cells #[.int .i64 a.slave, .int .i64 a.func, .int .i64 a.start, .int .i64 a.count, .int .i64 a.every] 68)).trans ((below_new (w.alloc (.cells #[.int .i64 a.slave, .int .i64 a.func, .int .i64 a.start, .int .i64 a.count, .int .i64 a.every] 68)) (.cells #[.int .i64 b.slave, .int .i64 b.func, .int .i64 b.start, .int .i64 b.count, .int .i64 b.every] 68)).mono (below_new w (.cells #[.int .i64 a.slave, .int .i64 a.func, .int .i64 a.start, .int .i64 a.count, .int .i64 a.every] 68)).size))
  rw [HR.out]
  clear HR
  go_enter Tryz.func70, Tryz.ntmps70
  go_wp2
  go_ret
  exact ⟨rfl, HB.out⟩
set_option maxRecDepth 100000 in
set_option maxHeartbeats 1000000 in
theorem polls_w2 (a b : Poll) (w : World) (h0 : (a.slave == b.slave) = true) (h1 : (a.func == b.func) = true) (h2 : (a.start == b.start) = false) : Calls Tryz.prog 70 #[.agg #[.int .i64 a.slave, .int .i64 a.func, .int .i64 a.start, .int .i64 a.count, .int .i64 a.every], .agg #[.int .i64 b.slave, .int .i64 b.func, .int .i64 b.start, .int .i64 b.count, .int .i64 b.every]] w fun e w' => e = .returned (.bool (pollEq a b)) ∧ Below w.heap.size w w' := by
  have HR := Lib.hid (show pollEq a b = false by simp [pollEq, h0, h1, h2])
  have HB := Lib.hid ((below_new w (.cells #[.int .i64 a.slave, .int .i64 a.func, .int .i64 a.start, .int .i64 a.count, .int .i64 a.every] 68)).trans ((below_new (w.alloc (.cells #[.int .i64 a.slave, .int .i64 a.func, .int .i64 a.start, .int .i64 a.count, .int .i64 a.every] 68)) (.cells #[.int .i64 b.slave, .int .i64 b.func, .int .i64 b.start, .int .i64 b.count, .int .i64 b.every] 68)).mono (below_new w (.cells #[.int .i64 a.slave, .int .i64 a.func, .int .i64 a.start, .int .i64 a.count, .int .i64 a.every] 68)).size))
  rw [HR.out]
  clear HR
  go_enter Tryz.func70, Tryz.ntmps70
  go_wp2
  go_ret
  exact ⟨rfl, HB.out⟩
set_option maxRecDepth 100000 in
set_option maxHeartbeats 1000000 in
theorem polls_w3 (a b : Poll) (w : World) (h0 : (a.slave == b.slave) = true) (h1 : (a.func == b.func) = true) (h2 : (a.start == b.start) = true) (h3 : (a.count == b.count) = false) : Calls Tryz.prog 70 #[.agg #[.int .i64 a.slave, .int .i64 a.func, .int .i64 a.start, .int .i64 a.count, .int .i64 a.every], .agg #[.int .i64 b.slave, .int .i64 b.func, .int .i64 b.start, .int .i64 b.count, .int .i64 b.every]] w fun e w' => e = .returned (.bool (pollEq a b)) ∧ Below w.heap.size w w' := by
  have HR := Lib.hid (show pollEq a b = false by simp [pollEq, h0, h1, h2, h3])
  have HB := Lib.hid ((below_new w (.cells #[.int .i64 a.slave, .int .i64 a.func, .int .i64 a.start, .int .i64 a.count, .int .i64 a.every] 68)).trans ((below_new (w.alloc (.cells #[.int .i64 a.slave, .int .i64 a.func, .int .i64 a.start, .int .i64 a.count, .int .i64 a.every] 68)) (.cells #[.int .i64 b.slave, .int .i64 b.func, .int .i64 b.start, .int .i64 b.count, .int .i64 b.every] 68)).mono (below_new w (.cells #[.int .i64 a.slave, .int .i64 a.func, .int .i64 a.start, .int .i64 a.count, .int .i64 a.every] 68)).size))
  rw [HR.out]
  clear HR
  go_enter Tryz.func70, Tryz.ntmps70
  go_wp2
  go_ret
  exact ⟨rfl, HB.out⟩
set_option maxRecDepth 100000 in
set_option maxHeartbeats 1000000 in
theorem polls_w4 (a b : Poll) (w : World) (h0 : (a.slave == b.slave) = true) (h1 : (a.func == b.func) = true) (h2 : (a.start == b.start) = true) (h3 : (a.count == b.count) = true) (h4 : (a.every == b.every) = false) : Calls Tryz.prog 70 #[.agg #[.int .i64 a.slave, .int .i64 a.func, .int .i64 a.start, .int .i64 a.count, .int .i64 a.every], .agg #[.int .i64 b.slave, .int .i64 b.func, .int .i64 b.start, .int .i64 b.count, .int .i64 b.every]] w fun e w' => e = .returned (.bool (pollEq a b)) ∧ Below w.heap.size w w' := by
  have HR := Lib.hid (show pollEq a b = false by simp [pollEq, h0, h1, h2, h3, h4])
  have HB := Lib.hid ((below_new w (.cells #[.int .i64 a.slave, .int .i64 a.func, .int .i64 a.start, .int .i64 a.count, .int .i64 a.every] 68)).trans ((below_new (w.alloc (.cells #[.int .i64 a.slave, .int .i64 a.func, .int .i64 a.start, .int .i64 a.count, .int .i64 a.every] 68)) (.cells #[.int .i64 b.slave, .int .i64 b.func, .int .i64 b.start, .int .i64 b.count, .int .i64 b.every] 68)).mono (below_new w (.cells #[.int .i64 a.slave, .int .i64 a.func, .int .i64 a.start, .int .i64 a.count, .int .i64 a.every] 68)).size))
  rw [HR.out]
  clear HR
  go_enter Tryz.func70, Tryz.ntmps70
  go_wp2
  go_ret
  exact ⟨rfl, HB.out⟩
set_option maxRecDepth 100000 in
set_option maxHeartbeats 1000000 in
theorem polls_w5 (a b : Poll) (w : World) (h0 : (a.slave == b.slave) = true) (h1 : (a.func == b.func) = true) (h2 : (a.start == b.start) = true) (h3 : (a.count == b.count) = true) (h4 : (a.every == b.every) = true) : Calls Tryz.prog 70 #[.agg #[.int .i64 a.slave, .int .i64 a.func, .int .i64 a.start, .int .i64 a.count, .int .i64 a.every], .agg #[.int .i64 b.slave, .int .i64 b.func, .int .i64 b.start, .int .i64 b.count, .int .i64 b.every]] w fun e w' => e = .returned (.bool (pollEq a b)) ∧ Below w.heap.size w w' := by
  have HR := Lib.hid (show pollEq a b = true by simp [pollEq, h0, h1, h2, h3, h4])
  have HB := Lib.hid ((below_new w (.cells #[.int .i64 a.slave, .int .i64 a.func, .int .i64 a.start, .int .i64 a.count, .int .i64 a.every] 68)).trans ((below_new (w.alloc (.cells #[.int .i64 a.slave, .int .i64 a.func, .int .i64 a.start, .int .i64 a.count, .int .i64 a.every] 68)) (.cells #[.int .i64 b.slave, .int .i64 b.func, .int .i64 b.start, .int .i64 b.count, .int .i64 b.every] 68)).mono (below_new w (.cells #[.int .i64 a.slave, .int .i64 a.func, .int .i64 a.start, .int .i64 a.count, .int .i64 a.every] 68)).size))
  rw [HR.out]
  clear HR
  go_enter Tryz.func70, Tryz.ntmps70
  go_wp2
  go_ret
  exact ⟨rfl, HB.out⟩
theorem polls_same0 (a b : Poll) (w : World) : Calls Tryz.prog 70 #[.agg #[.int .i64 a.slave, .int .i64 a.func, .int .i64 a.start, .int .i64 a.count, .int .i64 a.every], .agg #[.int .i64 b.slave, .int .i64 b.func, .int .i64 b.start, .int .i64 b.count, .int .i64 b.every]] w fun e w' => e = .returned (.bool (pollEq a b)) ∧ Below w.heap.size w w' := by
  rcases Bool.eq_false_or_eq_true (a.slave == b.slave) with h0 | h0
  case inr => exact polls_w0 a b w h0
  rcases Bool.eq_false_or_eq_true (a.func == b.func) with h1 | h1
  case inr => exact polls_w1 a b w h0 h1
  rcases Bool.eq_false_or_eq_true (a.start == b.start) with h2 | h2
  case inr => exact polls_w2 a b w h0 h1 h2
  rcases Bool.eq_false_or_eq_true (a.count == b.count) with h3 | h3
  case inr => exact polls_w3 a b w h0 h1 h2 h3
  rcases Bool.eq_false_or_eq_true (a.every == b.every) with h4 | h4
  case inr => exact polls_w4 a b w h0 h1 h2 h3 h4
  exact polls_w5 a b w h0 h1 h2 h3 h4
set_option maxRecDepth 100000 in
set_option maxHeartbeats 1000000 in
theorem points_w0 (a b : Pt) (w : World)  (h0 : (a.kind == b.kind) = false) : Calls Tryz.prog 71 #[.agg #[.int .i64 a.kind, .int .i64 a.poll, .int .i64 a.place, .int .i64 a.cls, .int .i64 a.dead, .int .i64 a.num, .int .i64 a.den, .int .i64 a.off], .agg #[.int .i64 b.kind, .int .i64 b.poll, .int .i64 b.place, .int .i64 b.cls, .int .i64 b.dead, .int .i64 b.num, .int .i64 b.den, .int .i64 b.off]] w fun e w' => e = .returned (.bool (ptEq a b)) ∧ Below w.heap.size w w' := by
  have HR := Lib.hid (show ptEq a b = false by simp [ptEq, h0])
  have HB := Lib.hid ((below_new w (.cells #[.int .i64 a.kind, .int .i64 a.poll, .int .i64 a.place, .int .i64 a.cls, .int .i64 a.dead, .int .i64 a.num, .int .i64 a.den, .int .i64 a.off] 62)).trans ((below_new (w.alloc (.cells #[.int .i64 a.kind, .int .i64 a.poll, .int .i64 a.place, .int .i64 a.cls, .int .i64 a.dead, .int .i64 a.num, .int .i64 a.den, .int .i64 a.off] 62)) (.cells #[.int .i64 b.kind, .int .i64 b.poll, .int .i64 b.place, .int .i64 b.cls, .int .i64 b.dead, .int .i64 b.num, .int .i64 b.den, .int .i64 b.off] 62)).mono (below_new w (.cells #[.int .i64 a.kind, .int .i64 a.poll, .int .i64 a.place, .int .i64 a.cls, .int .i64 a.dead, .int .i64 a.num, .int .i64 a.den, .int .i64 a.off] 62)).size))
  rw [HR.out]
  clear HR
  go_enter Tryz.func71, Tryz.ntmps71
  go_wp2
  go_ret
  exact ⟨rfl, HB.out⟩
set_option maxRecDepth 100000 in
set_option maxHeartbeats 1000000 in
theorem points_w1 (a b : Pt) (w : World) (h0 : (a.kind == b.kind) = true) (h1 : (a.poll == b.poll) = false) : Calls Tryz.prog 71 #[.agg #[.int .i64 a.kind, .int .i64 a.poll, .int .i64 a.place, .int .i64 a.cls, .int .i64 a.dead, .int .i64 a.num, .int .i64 a.den, .int .i64 a.off], .agg #[.int .i64 b.kind, .int .i64 b.poll, .int .i64 b.place, .int .i64 b.cls, .int .i64 b.dead, .int .i64 b.num, .int .i64 b.den, .int .i64 b.off]] w fun e w' => e = .returned (.bool (ptEq a b)) ∧ Below w.heap.size w w' := by
  have HR := Lib.hid (show ptEq a b = false by simp [ptEq, h0, h1])
  have HB := Lib.hid ((below_new w (.cells #[.int .i64 a.kind, .int .i64 a.poll, .int .i64 a.place, .int .i64 a.cls, .int .i64 a.dead, .int .i64 a.num, .int .i64 a.den, .int .i64 a.off] 62)).trans ((below_new (w.alloc (.cells #[.int .i64 a.kind, .int .i64 a.poll, .int .i64 a.place, .int .i64 a.cls, .int .i64 a.dead, .int .i64 a.num, .int .i64 a.den, .int .i64 a.off] 62)) (.cells #[.int .i64 b.kind, .int .i64 b.poll, .int .i64 b.place, .int .i64 b.cls, .int .i64 b.dead, .int .i64 b.num, .int .i64 b.den, .int .i64 b.off] 62)).mono (below_new w (.cells #[.int .i64 a.kind, .int .i64 a.poll, .int .i64 a.place, .int .i64 a.cls, .int .i64 a.dead, .int .i64 a.num, .int .i64 a.den, .int .i64 a.off] 62)).size))
  rw [HR.out]
  clear HR
  go_enter Tryz.func71, Tryz.ntmps71
  go_wp2
  go_ret
  exact ⟨rfl, HB.out⟩
set_option maxRecDepth 100000 in
set_option maxHeartbeats 1000000 in
theorem points_w2 (a b : Pt) (w : World) (h0 : (a.kind == b.kind) = true) (h1 : (a.poll == b.poll) = true) (h2 : (a.place == b.place) = false) : Calls Tryz.prog 71 #[.agg #[.int .i64 a.kind, .int .i64 a.poll, .int .i64 a.place, .int .i64 a.cls, .int .i64 a.dead, .int .i64 a.num, .int .i64 a.den, .int .i64 a.off], .agg #[.int .i64 b.kind, .int .i64 b.poll, .int .i64 b.place, .int .i64 b.cls, .int .i64 b.dead, .int .i64 b.num, .int .i64 b.den, .int .i64 b.off]] w fun e w' => e = .returned (.bool (ptEq a b)) ∧ Below w.heap.size w w' := by
  have HR := Lib.hid (show ptEq a b = false by simp [ptEq, h0, h1, h2])
  have HB := Lib.hid ((below_new w (.cells #[.int .i64 a.kind, .int .i64 a.poll, .int .i64 a.place, .int .i64 a.cls, .int .i64 a.dead, .int .i64 a.num, .int .i64 a.den, .int .i64 a.off] 62)).trans ((below_new (w.alloc (.cells #[.int .i64 a.kind, .int .i64 a.poll, .int .i64 a.place, .int .i64 a.cls, .int .i64 a.dead, .int .i64 a.num, .int .i64 a.den, .int .i64 a.off] 62)) (.cells #[.int .i64 b.kind, .int .i64 b.poll, .int .i64 b.place, .int .i64 b.cls, .int .i64 b.dead, .int .i64 b.num, .int .i64 b.den, .int .i64 b.off] 62)).mono (below_new w (.cells #[.int .i64 a.kind, .int .i64 a.poll, .int .i64 a.place, .int .i64 a.cls, .int .i64 a.dead, .int .i64 a.num, .int .i64 a.den, .int .i64 a.off] 62)).size))
  rw [HR.out]
  clear HR
  go_enter Tryz.func71, Tryz.ntmps71
  go_wp2
  go_ret
  exact ⟨rfl, HB.out⟩
set_option maxRecDepth 100000 in
set_option maxHeartbeats 1000000 in
theorem points_w3 (a b : Pt) (w : World) (h0 : (a.kind == b.kind) = true) (h1 : (a.poll == b.poll) = true) (h2 : (a.place == b.place) = true) (h3 : (a.cls == b.cls) = false) : Calls Tryz.prog 71 #[.agg #[.int .i64 a.kind, .int .i64 a.poll, .int .i64 a.place, .int .i64 a.cls, .int .i64 a.dead, .int .i64 a.num, .int .i64 a.den, .int .i64 a.off], .agg #[.int .i64 b.kind, .int .i64 b.poll, .int .i64 b.place, .int .i64 b.cls, .int .i64 b.dead, .int .i64 b.num, .int .i64 b.den, .int .i64 b.off]] w fun e w' => e = .returned (.bool (ptEq a b)) ∧ Below w.heap.size w w' := by
  have HR := Lib.hid (show ptEq a b = false by simp [ptEq, h0, h1, h2, h3])
  have HB := Lib.hid ((below_new w (.cells #[.int .i64 a.kind, .int .i64 a.poll, .int .i64 a.place, .int .i64 a.cls, .int .i64 a.dead, .int .i64 a.num, .int .i64 a.den, .int .i64 a.off] 62)).trans ((below_new (w.alloc (.cells #[.int .i64 a.kind, .int .i64 a.poll, .int .i64 a.place, .int .i64 a.cls, .int .i64 a.dead, .int .i64 a.num, .int .i64 a.den, .int .i64 a.off] 62)) (.cells #[.int .i64 b.kind, .int .i64 b.poll, .int .i64 b.place, .int .i64 b.cls, .int .i64 b.dead, .int .i64 b.num, .int .i64 b.den, .int .i64 b.off] 62)).mono (below_new w (.cells #[.int .i64 a.kind, .int .i64 a.poll, .int .i64 a.place, .int .i64 a.cls, .int .i64 a.dead, .int .i64 a.num, .int .i64 a.den, .int .i64 a.off] 62)).size))
  rw [HR.out]
  clear HR
  go_enter Tryz.func71, Tryz.ntmps71
  go_wp2
  go_ret
  exact ⟨rfl, HB.out⟩
set_option maxRecDepth 100000 in
set_option maxHeartbeats 1000000 in
theorem points_w4 (a b : Pt) (w : World) (h0 : (a.kind == b.kind) = true) (h1 : (a.poll == b.poll) = true) (h2 : (a.place == b.place) = true) (h3 : (a.cls == b.cls) = true) (h4 : (a.dead == b.dead) = false) : Calls Tryz.prog 71 #[.agg #[.int .i64 a.kind, .int .i64 a.poll, .int .i64 a.place, .int .i64 a.cls, .int .i64 a.dead, .int .i64 a.num, .int .i64 a.den, .int .i64 a.off], .agg #[.int .i64 b.kind, .int .i64 b.poll, .int .i64 b.place, .int .i64 b.cls, .int .i64 b.dead, .int .i64 b.num, .int .i64 b.den, .int .i64 b.off]] w fun e w' => e = .returned (.bool (ptEq a b)) ∧ Below w.heap.size w w' := by
  have HR := Lib.hid (show ptEq a b = false by simp [ptEq, h0, h1, h2, h3, h4])
  have HB := Lib.hid ((below_new w (.cells #[.int .i64 a.kind, .int .i64 a.poll, .int .i64 a.place, .int .i64 a.cls, .int .i64 a.dead, .int .i64 a.num, .int .i64 a.den, .int .i64 a.off] 62)).trans ((below_new (w.alloc (.cells #[.int .i64 a.kind, .int .i64 a.poll, .int .i64 a.place, .int .i64 a.cls, .int .i64 a.dead, .int .i64 a.num, .int .i64 a.den, .int .i64 a.off] 62)) (.cells #[.int .i64 b.kind, .int .i64 b.poll, .int .i64 b.place, .int .i64 b.cls, .int .i64 b.dead, .int .i64 b.num, .int .i64 b.den, .int .i64 b.off] 62)).mono (below_new w (.cells #[.int .i64 a.kind, .int .i64 a.poll, .int .i64 a.place, .int .i64 a.cls, .int .i64 a.dead, .int .i64 a.num, .int .i64 a.den, .int .i64 a.off] 62)).size))
  rw [HR.out]
  clear HR
  go_enter Tryz.func71, Tryz.ntmps71
  go_wp2
  go_ret
  exact ⟨rfl, HB.out⟩
set_option maxRecDepth 100000 in
set_option maxHeartbeats 1000000 in
theorem points_w5 (a b : Pt) (w : World) (h0 : (a.kind == b.kind) = true) (h1 : (a.poll == b.poll) = true) (h2 : (a.place == b.place) = true) (h3 : (a.cls == b.cls) = true) (h4 : (a.dead == b.dead) = true) (h5 : (a.num == b.num) = false) : Calls Tryz.prog 71 #[.agg #[.int .i64 a.kind, .int .i64 a.poll, .int .i64 a.place, .int .i64 a.cls, .int .i64 a.dead, .int .i64 a.num, .int .i64 a.den, .int .i64 a.off], .agg #[.int .i64 b.kind, .int .i64 b.poll, .int .i64 b.place, .int .i64 b.cls, .int .i64 b.dead, .int .i64 b.num, .int .i64 b.den, .int .i64 b.off]] w fun e w' => e = .returned (.bool (ptEq a b)) ∧ Below w.heap.size w w' := by
  have HR := Lib.hid (show ptEq a b = false by simp [ptEq, h0, h1, h2, h3, h4, h5])
  have HB := Lib.hid ((below_new w (.cells #[.int .i64 a.kind, .int .i64 a.poll, .int .i64 a.place, .int .i64 a.cls, .int .i64 a.dead, .int .i64 a.num, .int .i64 a.den, .int .i64 a.off] 62)).trans ((below_new (w.alloc (.cells #[.int .i64 a.kind, .int .i64 a.poll, .int .i64 a.place, .int .i64 a.cls, .int .i64 a.dead, .int .i64 a.num, .int .i64 a.den, .int .i64 a.off] 62)) (.cells #[.int .i64 b.kind, .int .i64 b.poll, .int .i64 b.place, .int .i64 b.cls, .int .i64 b.dead, .int .i64 b.num, .int .i64 b.den, .int .i64 b.off] 62)).mono (below_new w (.cells #[.int .i64 a.kind, .int .i64 a.poll, .int .i64 a.place, .int .i64 a.cls, .int .i64 a.dead, .int .i64 a.num, .int .i64 a.den, .int .i64 a.off] 62)).size))
  rw [HR.out]
  clear HR
  go_enter Tryz.func71, Tryz.ntmps71
  go_wp2
  go_ret
  exact ⟨rfl, HB.out⟩
set_option maxRecDepth 100000 in
set_option maxHeartbeats 1000000 in
theorem points_w6 (a b : Pt) (w : World) (h0 : (a.kind == b.kind) = true) (h1 : (a.poll == b.poll) = true) (h2 : (a.place == b.place) = true) (h3 : (a.cls == b.cls) = true) (h4 : (a.dead == b.dead) = true) (h5 : (a.num == b.num) = true) (h6 : (a.den == b.den) = false) : Calls Tryz.prog 71 #[.agg #[.int .i64 a.kind, .int .i64 a.poll, .int .i64 a.place, .int .i64 a.cls, .int .i64 a.dead, .int .i64 a.num, .int .i64 a.den, .int .i64 a.off], .agg #[.int .i64 b.kind, .int .i64 b.poll, .int .i64 b.place, .int .i64 b.cls, .int .i64 b.dead, .int .i64 b.num, .int .i64 b.den, .int .i64 b.off]] w fun e w' => e = .returned (.bool (ptEq a b)) ∧ Below w.heap.size w w' := by
  have HR := Lib.hid (show ptEq a b = false by simp [ptEq, h0, h1, h2, h3, h4, h5, h6])
  have HB := Lib.hid ((below_new w (.cells #[.int .i64 a.kind, .int .i64 a.poll, .int .i64 a.place, .int .i64 a.cls, .int .i64 a.dead, .int .i64 a.num, .int .i64 a.den, .int .i64 a.off] 62)).trans ((below_new (w.alloc (.cells #[.int .i64 a.kind, .int .i64 a.poll, .int .i64 a.place, .int .i64 a.cls, .int .i64 a.dead, .int .i64 a.num, .int .i64 a.den, .int .i64 a.off] 62)) (.cells #[.int .i64 b.kind, .int .i64 b.poll, .int .i64 b.place, .int .i64 b.cls, .int .i64 b.dead, .int .i64 b.num, .int .i64 b.den, .int .i64 b.off] 62)).mono (below_new w (.cells #[.int .i64 a.kind, .int .i64 a.poll, .int .i64 a.place, .int .i64 a.cls, .int .i64 a.dead, .int .i64 a.num, .int .i64 a.den, .int .i64 a.off] 62)).size))
  rw [HR.out]
  clear HR
  go_enter Tryz.func71, Tryz.ntmps71
  go_wp2
  go_ret
  exact ⟨rfl, HB.out⟩
set_option maxRecDepth 100000 in
set_option maxHeartbeats 1000000 in
theorem points_w7 (a b : Pt) (w : World) (h0 : (a.kind == b.kind) = true) (h1 : (a.poll == b.poll) = true) (h2 : (a.place == b.place) = true) (h3 : (a.cls == b.cls) = true) (h4 : (a.dead == b.dead) = true) (h5 : (a.num == b.num) = true) (h6 : (a.den == b.den) = true) (h7 : (a.off == b.off) = false) : Calls Tryz.prog 71 #[.agg #[.int .i64 a.kind, .int .i64 a.poll, .int .i64 a.place, .int .i64 a.cls, .int .i64 a.dead, .int .i64 a.num, .int .i64 a.den, .int .i64 a.off], .agg #[.int .i64 b.kind, .int .i64 b.poll, .int .i64 b.place, .int .i64 b.cls, .int .i64 b.dead, .int .i64 b.num, .int .i64 b.den, .int .i64 b.off]] w fun e w' => e = .returned (.bool (ptEq a b)) ∧ Below w.heap.size w w' := by
  have HR := Lib.hid (show ptEq a b = false by simp [ptEq, h0, h1, h2, h3, h4, h5, h6, h7])
  have HB := Lib.hid ((below_new w (.cells #[.int .i64 a.kind, .int .i64 a.poll, .int .i64 a.place, .int .i64 a.cls, .int .i64 a.dead, .int .i64 a.num, .int .i64 a.den, .int .i64 a.off] 62)).trans ((below_new (w.alloc (.cells #[.int .i64 a.kind, .int .i64 a.poll, .int .i64 a.place, .int .i64 a.cls, .int .i64 a.dead, .int .i64 a.num, .int .i64 a.den, .int .i64 a.off] 62)) (.cells #[.int .i64 b.kind, .int .i64 b.poll, .int .i64 b.place, .int .i64 b.cls, .int .i64 b.dead, .int .i64 b.num, .int .i64 b.den, .int .i64 b.off] 62)).mono (below_new w (.cells #[.int .i64 a.kind, .int .i64 a.poll, .int .i64 a.place, .int .i64 a.cls, .int .i64 a.dead, .int .i64 a.num, .int .i64 a.den, .int .i64 a.off] 62)).size))
  rw [HR.out]
  clear HR
  go_enter Tryz.func71, Tryz.ntmps71
  go_wp2
  go_ret
  exact ⟨rfl, HB.out⟩
set_option maxRecDepth 100000 in
set_option maxHeartbeats 1000000 in
theorem points_w8 (a b : Pt) (w : World) (h0 : (a.kind == b.kind) = true) (h1 : (a.poll == b.poll) = true) (h2 : (a.place == b.place) = true) (h3 : (a.cls == b.cls) = true) (h4 : (a.dead == b.dead) = true) (h5 : (a.num == b.num) = true) (h6 : (a.den == b.den) = true) (h7 : (a.off == b.off) = true) : Calls Tryz.prog 71 #[.agg #[.int .i64 a.kind, .int .i64 a.poll, .int .i64 a.place, .int .i64 a.cls, .int .i64 a.dead, .int .i64 a.num, .int .i64 a.den, .int .i64 a.off], .agg #[.int .i64 b.kind, .int .i64 b.poll, .int .i64 b.place, .int .i64 b.cls, .int .i64 b.dead, .int .i64 b.num, .int .i64 b.den, .int .i64 b.off]] w fun e w' => e = .returned (.bool (ptEq a b)) ∧ Below w.heap.size w w' := by
  have HR := Lib.hid (show ptEq a b = true by simp [ptEq, h0, h1, h2, h3, h4, h5, h6, h7])
  have HB := Lib.hid ((below_new w (.cells #[.int .i64 a.kind, .int .i64 a.poll, .int .i64 a.place, .int .i64 a.cls, .int .i64 a.dead, .int .i64 a.num, .int .i64 a.den, .int .i64 a.off] 62)).trans ((below_new (w.alloc (.cells #[.int .i64 a.kind, .int .i64 a.poll, .int .i64 a.place, .int .i64 a.cls, .int .i64 a.dead, .int .i64 a.num, .int .i64 a.den, .int .i64 a.off] 62)) (.cells #[.int .i64 b.kind, .int .i64 b.poll, .int .i64 b.place, .int .i64 b.cls, .int .i64 b.dead, .int .i64 b.num, .int .i64 b.den, .int .i64 b.off] 62)).mono (below_new w (.cells #[.int .i64 a.kind, .int .i64 a.poll, .int .i64 a.place, .int .i64 a.cls, .int .i64 a.dead, .int .i64 a.num, .int .i64 a.den, .int .i64 a.off] 62)).size))
  rw [HR.out]
  clear HR
  go_enter Tryz.func71, Tryz.ntmps71
  go_wp2
  go_ret
  exact ⟨rfl, HB.out⟩
theorem points_same0 (a b : Pt) (w : World) : Calls Tryz.prog 71 #[.agg #[.int .i64 a.kind, .int .i64 a.poll, .int .i64 a.place, .int .i64 a.cls, .int .i64 a.dead, .int .i64 a.num, .int .i64 a.den, .int .i64 a.off], .agg #[.int .i64 b.kind, .int .i64 b.poll, .int .i64 b.place, .int .i64 b.cls, .int .i64 b.dead, .int .i64 b.num, .int .i64 b.den, .int .i64 b.off]] w fun e w' => e = .returned (.bool (ptEq a b)) ∧ Below w.heap.size w w' := by
  rcases Bool.eq_false_or_eq_true (a.kind == b.kind) with h0 | h0
  case inr => exact points_w0 a b w h0
  rcases Bool.eq_false_or_eq_true (a.poll == b.poll) with h1 | h1
  case inr => exact points_w1 a b w h0 h1
  rcases Bool.eq_false_or_eq_true (a.place == b.place) with h2 | h2
  case inr => exact points_w2 a b w h0 h1 h2
  rcases Bool.eq_false_or_eq_true (a.cls == b.cls) with h3 | h3
  case inr => exact points_w3 a b w h0 h1 h2 h3
  rcases Bool.eq_false_or_eq_true (a.dead == b.dead) with h4 | h4
  case inr => exact points_w4 a b w h0 h1 h2 h3 h4
  rcases Bool.eq_false_or_eq_true (a.num == b.num) with h5 | h5
  case inr => exact points_w5 a b w h0 h1 h2 h3 h4 h5
  rcases Bool.eq_false_or_eq_true (a.den == b.den) with h6 | h6
  case inr => exact points_w6 a b w h0 h1 h2 h3 h4 h5 h6
  rcases Bool.eq_false_or_eq_true (a.off == b.off) with h7 | h7
  case inr => exact points_w7 a b w h0 h1 h2 h3 h4 h5 h6 h7
  exact points_w8 a b w h0 h1 h2 h3 h4 h5 h6 h7
/-- The nine numbers. -/
def numsV (c : Cfg) : Value := .agg #[.int .i64 c.own, .int .i64 c.master, .int .i64 c.reply, .int .i64 c.silence, .int .i64 c.retries, .int .i64 c.offline, .int .i64 c.select, .int .i64 c.confirm, .int .i64 c.frag]
set_option maxRecDepth 100000 in
set_option maxHeartbeats 4000000 in
theorem nums_any (c : Cfg) (sl po pt ct : Value) (w : World) : Calls Tryz.prog 78 #[cfgV c sl po pt ct] w fun e w' => e = .returned (numsV c) ∧ Below w.heap.size w w' := by
  unfold cfgV numsV
  go_enter Tryz.func78, Tryz.ntmps78
  go_wp2
  obtain ⟨wx, hwx⟩ : ∃ wx, wx = (w.alloc (.cells #[.int .i64 c.own, .int .i64 c.master, .bool c.unsol, .int .i64 c.reply, .int .i64 c.silence, .int .i64 c.retries, .int .i64 c.offline, .int .i64 c.select, .int .i64 c.confirm, .int .i64 c.frag, .int .i64 c.r0, .int .i64 c.r1, .int .i64 c.r2, sl, po, pt, ct] 28)).alloc (.cells #[.int .i64 c.own, .int .i64 c.master, .int .i64 c.reply, .int .i64 c.silence, .int .i64 c.retries, .int .i64 c.offline, .int .i64 c.select, .int .i64 c.confirm, .int .i64 c.frag] 118) := ⟨_, rfl⟩
  have hb : Below w.heap.size w wx := by
    rw [hwx]
    exact (below_new w _).trans ((below_new (w.alloc _) _).mono (below_new w _).size)
  have hq : wx.heap[w.heap.size + 1]? = some (.cells #[.int .i64 c.own, .int .i64 c.master, .int .i64 c.reply, .int .i64 c.silence, .int .i64 c.retries, .int .i64 c.offline, .int .i64 c.select, .int .i64 c.confirm, .int .i64 c.frag] 118 (0, 0)) := by
    rw [hwx]
    exact (two_new w _ _).2
  rw [← hwx]
  refine bodyPost_ret (v := .agg #[.int .i64 c.own, .int .i64 c.master, .int .i64 c.reply, .int .i64 c.silence, .int .i64 c.retries, .int .i64 c.offline, .int .i64 c.select, .int .i64 c.confirm, .int .i64 c.frag]) ?_ rfl ⟨rfl, hb⟩
  simp [results, Tryz.results78, go_sem, cells_of hq 0 _ rfl, cells_of hq 1 _ rfl, cells_of hq 2 _ rfl, cells_of hq 3 _ rfl, cells_of hq 4 _ rfl, cells_of hq 5 _ rfl, cells_of hq 6 _ rfl, cells_of hq 7 _ rfl, cells_of hq 8 _ rfl]
end Go.Proofs.YtpocjmlkhophoaaGreatDoor
