/- yardref.Ints, samePoll, samePoint; slices.Equal at ints, polls, points and controls: what each answers; nothing is turned. -/
import Derived.Test.YtpocjmlkhophoaaGreatDoorGrow
import Derived.Test.YtpocjmlkhophoaaGreatDoorSameP
import Derived.Test.YtpocjmlkhophoaaGreatDoorEqA
namespace Go.Proofs.YtpocjmlkhophoaaGreatDoor
open Go.RowKit Go.Extern.Stop Go.Stop Go.Extern

theorem sub_nil {α : Type} (l : List α) : 0 ≤ l.length := Nat.zero_le _
/-- Alike up to a place. -/
def EqTo {α : Type} (f : α → α → Bool) (l m : List α) (i : Nat) : Prop := i ≤ l.length ∧ ∀ j (h1 : j < l.length) (h2 : j < m.length), j < i → f l[j] m[j] = true
theorem eqTo_zero {α : Type} (f : α → α → Bool) (l m : List α) : EqTo f l m 0 := ⟨Nat.zero_le _, fun _ _ _ h => by omega⟩
theorem EqTo.next {α : Type} {f : α → α → Bool} {l m : List α} {i : Nat} (h : EqTo f l m i) (h1 : i < l.length) (h2 : i < m.length) (h3 : f l[i] m[i] = true) : EqTo f l m (i + 1) := ⟨by omega, fun j k1 k2 hj => by
  rcases Nat.lt_or_ge j i with h' | h'
  · exact h.2 j k1 k2 h'
  · have : j = i := by omega
    subst this
    exact h3⟩
theorem EqTo.all {α : Type} {f : α → α → Bool} {l m : List α} {i : Nat} (h : EqTo f l m i) (hi : ¬ i < l.length) (hlen : l.length = m.length) : eqL f l m = true := eqL_all f l m hlen fun j h1 h2 => h.2 j h1 h2 (by omega)

theorem next_i64' (i : Nat) (h : i < 1000000) : Value.int .i64 (wrap64 ((i : Int) + 1)) = .int .i64 ((i + 1 : Nat) : Int) := by
  congr 1
  unfold wrap64
  omega
set_option maxRecDepth 100000 in
set_option maxHeartbeats 4000000 in
theorem eq_ints (l m : List Int) (x y : Value) (w : World) (hx : LiesAt w x l.length (icells l)) (hy : LiesAt w y m.length (icells m)) (hl : l.length ≤ 1000) (hm : m.length ≤ 1000) : Calls Tryz.prog 79 #[x, y] w fun e w' => e = .returned (.bool (eqL intEq l m)) ∧ Below w.heap.size w w' := by
  have HX := Lib.hid hx
  have HY := Lib.hid hy
  obtain ⟨a1, q1, rfl, _⟩ := hx.form
  obtain ⟨a2, q2, rfl, _⟩ := hy.form
  have HL := Lib.hid (And.intro hl hm)
  clear hx hy hl hm
  by_cases hlen : l.length = m.length
  case neg =>
    have HR := Lib.hid (eqL_len intEq l m hlen)
    rw [HR.out]
    have hne : ((l.length : Int) != (m.length : Int)) = true := by simp; omega
    clear HR hlen
    go_enter Tryz.func79, Tryz.ntmps79
    go_wp2
    go_ret
    exact ⟨rfl, Below.refl _ _⟩
  have hne0 : ((l.length : Int) != (m.length : Int)) = false := by simp; omega
  have HLEN := Lib.hid hlen
  clear hlen
  go_enter Tryz.func79, Tryz.ntmps79
  go_wp2
  go_loopg [13] l.length (fun k s13 wr => ∃ i : Nat, i ≤ l.length ∧ k = l.length - i ∧ s13 = .int .i64 (i : Int) ∧ Hid (EqTo intEq l m i ∧ Below w.heap.size w wr))
  case atStart => exact ⟨0, Nat.zero_le _, rfl, rfl, Lib.hid ⟨eqTo_zero _ _ _, Below.refl _ _⟩⟩
  case round =>
    obtain ⟨i, hi, rfl, rfl, HI⟩ := hrel
    have HX := Lib.hid (HX.out.on HI.out.2)
    have HY := Lib.hid (HY.out.on HI.out.2)
    by_cases hlt : i < l.length
    · have hlt2 : i < m.length := by have := HLEN.out; omega
      obtain ⟨b1, o1, rfl, at1⟩ := lies_cells HX.out (icells_get l i hlt)
      obtain ⟨b2, o2, rfl, at2⟩ := lies_cells HY.out (icells_get m i hlt2)
      have p0 := at1 _ _ (icells_get l i hlt)
      have r0 := at2 _ _ (icells_get m i hlt2)
      clear at1 at2
      have HN : Hid (intEq l[i] m[i] = true → EqTo intEq l m (i + 1)) := Lib.hid (HI.out.1.next hlt hlt2)
      have HE : Hid (intEq l[i] m[i] = false → eqL intEq l m = false) := Lib.hid (eqL_ne intEq l m i hlt hlt2)
      have HB := Lib.hid HI.out.2
      have HJ := Lib.hid (show i < 1000000 by have := HL.out.1; omega)
      clear HI
      generalize l[i] = y at *
      generalize m[i] = z at *
      rcases Bool.eq_false_or_eq_true (intEq y z) with h0 | h0
      · have HN2 := Lib.hid (HN.out h0)
        clear HN HE
        have hyz : (y != z) = false := by simpa [intEq] using h0
        clear h0
        go_wp2
        go_quiet (fail)
        go_wp2
        go_roundg (l.length - (i + 1))
        case measure => omega
        case rel => exact ⟨i + 1, by omega, rfl, next_i64' i HJ.out, Lib.hid ⟨HN2.out, HB.out.trans ((below_drewN (Below.refl _ _) _).mono HB.out.size)⟩⟩
      · have HE2 := Lib.hid (HE.out h0)
        clear HN HE
        have hyz : (y != z) = true := by simpa [intEq] using h0
        clear h0
        go_wp2
        go_quiet (fail)
        go_wp2
        go_ret
        rw [HE2.out]
        exact ⟨rfl, HB.out.trans ((below_drewN (Below.refl _ _) _).mono HB.out.size)⟩
    · have HR := Lib.hid (HI.out.1.all hlt HLEN.out)
      go_wp2
      go_ret
      rw [HR.out]
      exact ⟨rfl, HI.out.2⟩

set_option maxRecDepth 100000 in
set_option maxHeartbeats 4000000 in
theorem eq_polls (l m : List Poll) (x y : Value) (w : World) (hx : LiesAt w x l.length (pollCells l)) (hy : LiesAt w y m.length (pollCells m)) (hl : l.length ≤ 1000) (hm : m.length ≤ 1000) : Calls Tryz.prog 80 #[x, y] w fun e w' => e = .returned (.bool (eqL pollEq l m)) ∧ Below w.heap.size w w' := by
  have HX := Lib.hid hx
  have HY := Lib.hid hy
  obtain ⟨a1, q1, rfl, _⟩ := hx.form
  obtain ⟨a2, q2, rfl, _⟩ := hy.form
  have HL := Lib.hid (And.intro hl hm)
  clear hx hy hl hm
  by_cases hlen : l.length = m.length
  case neg =>
    have HR := Lib.hid (eqL_len pollEq l m hlen)
    rw [HR.out]
    have hne : ((l.length : Int) != (m.length : Int)) = true := by simp; omega
    clear HR hlen
    go_enter Tryz.func80, Tryz.ntmps80
    go_wp2
    go_ret
    exact ⟨rfl, Below.refl _ _⟩
  have hne0 : ((l.length : Int) != (m.length : Int)) = false := by simp; omega
  have HLEN := Lib.hid hlen
  clear hlen
  go_enter Tryz.func80, Tryz.ntmps80
  go_wp2
  go_loopg [13] l.length (fun k s13 wr => ∃ i : Nat, i ≤ l.length ∧ k = l.length - i ∧ s13 = .int .i64 (i : Int) ∧ Hid (EqTo pollEq l m i ∧ Below w.heap.size w wr))
  case atStart => exact ⟨0, Nat.zero_le _, rfl, rfl, Lib.hid ⟨eqTo_zero _ _ _, Below.refl _ _⟩⟩
  case round =>
    obtain ⟨i, hi, rfl, rfl, HI⟩ := hrel
    have HX := Lib.hid (HX.out.on HI.out.2)
    have HY := Lib.hid (HY.out.on HI.out.2)
    by_cases hlt : i < l.length
    · have hlt2 : i < m.length := by have := HLEN.out; omega
      obtain ⟨b1, o1, rfl, p0, p1, p2, p3, p4⟩ := row5_of HX.out i hlt
      obtain ⟨b2, o2, rfl, r0, r1, r2, r3, r4⟩ := row5_of HY.out i hlt2
      have HN : Hid (pollEq l[i] m[i] = true → EqTo pollEq l m (i + 1)) := Lib.hid (HI.out.1.next hlt hlt2)
      have HE : Hid (pollEq l[i] m[i] = false → eqL pollEq l m = false) := Lib.hid (eqL_ne pollEq l m i hlt hlt2)
      have HB := Lib.hid HI.out.2
      have HJ := Lib.hid (show i < 1000000 by have := HL.out.1; omega)
      clear HI
      generalize l[i] = y at *
      generalize m[i] = z at *
      have hne : ∀ w, (binOp .neq 68 (.agg #[.int .i64 y.slave, .int .i64 y.func, .int .i64 y.start, .int .i64 y.count, .int .i64 y.every]) (.agg #[.int .i64 z.slave, .int .i64 z.func, .int .i64 z.start, .int .i64 z.count, .int .i64 z.every])).run Tryz.prog w = .ok (.bool (!pollEq y z)) w := neq_poll y.slave y.func y.start y.count y.every z.slave z.func z.start z.count z.every
      rcases Bool.eq_false_or_eq_true (pollEq y z) with h0 | h0
      · have HN2 := Lib.hid (HN.out h0)
        clear HN HE
        rw [h0] at hne
        clear h0
        go_wp2
        go_quiet (fail)
        go_wp2
        go_roundg (l.length - (i + 1))
        case measure => omega
        case rel => exact ⟨i + 1, by omega, rfl, next_i64' i HJ.out, Lib.hid ⟨HN2.out, HB.out.trans ((below_drewN (Below.refl _ _) _).mono HB.out.size)⟩⟩
      · have HE2 := Lib.hid (HE.out h0)
        clear HN HE
        rw [h0] at hne
        clear h0
        go_wp2
        go_quiet (fail)
        go_wp2
        go_ret
        rw [HE2.out]
        exact ⟨rfl, HB.out.trans ((below_drewN (Below.refl _ _) _).mono HB.out.size)⟩
    · have HR := Lib.hid (HI.out.1.all hlt HLEN.out)
      go_wp2
      go_ret
      rw [HR.out]
      exact ⟨rfl, HI.out.2⟩

set_option maxRecDepth 100000 in
set_option maxHeartbeats 4000000 in
theorem eq_points (l m : List Pt) (x y : Value) (w : World) (hx : LiesAt w x l.length (ptCells l)) (hy : LiesAt w y m.length (ptCells m)) (hl : l.length ≤ 1000) (hm : m.length ≤ 1000) : Calls Tryz.prog 81 #[x, y] w fun e w' => e = .returned (.bool (eqL ptEq l m)) ∧ Below w.heap.size w w' := by
  have HX := Lib.hid hx
  have HY := Lib.hid hy
  obtain ⟨a1, q1, rfl, _⟩ := hx.form
  obtain ⟨a2, q2, rfl, _⟩ := hy.form
  have HL := Lib.hid (And.intro hl hm)
  clear hx hy hl hm
  by_cases hlen : l.length = m.length
  case neg =>
    have HR := Lib.hid (eqL_len ptEq l m hlen)
    rw [HR.out]
    have hne : ((l.length : Int) != (m.length : Int)) = true := by simp; omega
    clear HR hlen
    go_enter Tryz.func81, Tryz.ntmps81
    go_wp2
    go_ret
    exact ⟨rfl, Below.refl _ _⟩
  have hne0 : ((l.length : Int) != (m.length : Int)) = false := by simp; omega
  have HLEN := Lib.hid hlen
  clear hlen
  go_enter Tryz.func81, Tryz.ntmps81
  go_wp2
  go_loopg [13] l.length (fun k s13 wr => ∃ i : Nat, i ≤ l.length ∧ k = l.length - i ∧ s13 = .int .i64 (i : Int) ∧ Hid (EqTo ptEq l m i ∧ Below w.heap.size w wr))
  case atStart => exact ⟨0, Nat.zero_le _, rfl, rfl, Lib.hid ⟨eqTo_zero _ _ _, Below.refl _ _⟩⟩
  case round =>
    obtain ⟨i, hi, rfl, rfl, HI⟩ := hrel
    have HX := Lib.hid (HX.out.on HI.out.2)
    have HY := Lib.hid (HY.out.on HI.out.2)
    by_cases hlt : i < l.length
    · have hlt2 : i < m.length := by have := HLEN.out; omega
      obtain ⟨b1, o1, rfl, p0, p1, p2, p3, p4, p5, p6, p7⟩ := row8_of HX.out i hlt
      obtain ⟨b2, o2, rfl, r0, r1, r2, r3, r4, r5, r6, r7⟩ := row8_of HY.out i hlt2
      have HN : Hid (ptEq l[i] m[i] = true → EqTo ptEq l m (i + 1)) := Lib.hid (HI.out.1.next hlt hlt2)
      have HE : Hid (ptEq l[i] m[i] = false → eqL ptEq l m = false) := Lib.hid (eqL_ne ptEq l m i hlt hlt2)
      have HB := Lib.hid HI.out.2
      have HJ := Lib.hid (show i < 1000000 by have := HL.out.1; omega)
      clear HI
      generalize l[i] = y at *
      generalize m[i] = z at *
      have hne : ∀ w, (binOp .neq 62 (.agg #[.int .i64 y.kind, .int .i64 y.poll, .int .i64 y.place, .int .i64 y.cls, .int .i64 y.dead, .int .i64 y.num, .int .i64 y.den, .int .i64 y.off]) (.agg #[.int .i64 z.kind, .int .i64 z.poll, .int .i64 z.place, .int .i64 z.cls, .int .i64 z.dead, .int .i64 z.num, .int .i64 z.den, .int .i64 z.off])).run Tryz.prog w = .ok (.bool (!ptEq y z)) w := neq_point y.kind y.poll y.place y.cls y.dead y.num y.den y.off z.kind z.poll z.place z.cls z.dead z.num z.den z.off
      rcases Bool.eq_false_or_eq_true (ptEq y z) with h0 | h0
      · have HN2 := Lib.hid (HN.out h0)
        clear HN HE
        rw [h0] at hne
        clear h0
        go_wp2
        go_quiet (fail)
        go_wp2
        go_roundg (l.length - (i + 1))
        case measure => omega
        case rel => exact ⟨i + 1, by omega, rfl, next_i64' i HJ.out, Lib.hid ⟨HN2.out, HB.out.trans ((below_drewN (Below.refl _ _) _).mono HB.out.size)⟩⟩
      · have HE2 := Lib.hid (HE.out h0)
        clear HN HE
        rw [h0] at hne
        clear h0
        go_wp2
        go_quiet (fail)
        go_wp2
        go_ret
        rw [HE2.out]
        exact ⟨rfl, HB.out.trans ((below_drewN (Below.refl _ _) _).mono HB.out.size)⟩
    · have HR := Lib.hid (HI.out.1.all hlt HLEN.out)
      go_wp2
      go_ret
      rw [HR.out]
      exact ⟨rfl, HI.out.2⟩

set_option maxRecDepth 100000 in
set_option maxHeartbeats 4000000 in
theorem eq_ctls (l m : List Ctl) (x y : Value) (w : World) (hx : LiesAt w x l.length (ctlCells l)) (hy : LiesAt w y m.length (ctlCells m)) (hl : l.length ≤ 1000) (hm : m.length ≤ 1000) : Calls Tryz.prog 82 #[x, y] w fun e w' => e = .returned (.bool (eqL ctlEq l m)) ∧ Below w.heap.size w w' := by
  have HX := Lib.hid hx
  have HY := Lib.hid hy
  obtain ⟨a1, q1, rfl, _⟩ := hx.form
  obtain ⟨a2, q2, rfl, _⟩ := hy.form
  have HL := Lib.hid (And.intro hl hm)
  clear hx hy hl hm
  by_cases hlen : l.length = m.length
  case neg =>
    have HR := Lib.hid (eqL_len ctlEq l m hlen)
    rw [HR.out]
    have hne : ((l.length : Int) != (m.length : Int)) = true := by simp; omega
    clear HR hlen
    go_enter Tryz.func82, Tryz.ntmps82
    go_wp2
    go_ret
    exact ⟨rfl, Below.refl _ _⟩
  have hne0 : ((l.length : Int) != (m.length : Int)) = false := by simp; omega
  have HLEN := Lib.hid hlen
  clear hlen
  go_enter Tryz.func82, Tryz.ntmps82
  go_wp2
  go_loopg [13] l.length (fun k s13 wr => ∃ i : Nat, i ≤ l.length ∧ k = l.length - i ∧ s13 = .int .i64 (i : Int) ∧ Hid (EqTo ctlEq l m i ∧ Below w.heap.size w wr))
  case atStart => exact ⟨0, Nat.zero_le _, rfl, rfl, Lib.hid ⟨eqTo_zero _ _ _, Below.refl _ _⟩⟩
  case round =>
    obtain ⟨i, hi, rfl, rfl, HI⟩ := hrel
    have HX := Lib.hid (HX.out.on HI.out.2)
    have HY := Lib.hid (HY.out.on HI.out.2)
    by_cases hlt : i < l.length
    · have hlt2 : i < m.length := by have := HLEN.out; omega
      obtain ⟨b1, o1, rfl, p0, p1, p2⟩ := row3_of HX.out i hlt
      obtain ⟨b2, o2, rfl, r0, r1, r2⟩ := row3_of HY.out i hlt2
      have HN : Hid (ctlEq l[i] m[i] = true → EqTo ctlEq l m (i + 1)) := Lib.hid (HI.out.1.next hlt hlt2)
      have HE : Hid (ctlEq l[i] m[i] = false → eqL ctlEq l m = false) := Lib.hid (eqL_ne ctlEq l m i hlt hlt2)
      have HB := Lib.hid HI.out.2
      have HJ := Lib.hid (show i < 1000000 by have := HL.out.1; omega)
      clear HI
      generalize l[i] = y at *
      generalize m[i] = z at *
      have hne : ∀ w, (binOp .neq 70 (.agg #[.int .i64 y.kind, .int .i64 y.slave, .int .i64 y.reg]) (.agg #[.int .i64 z.kind, .int .i64 z.slave, .int .i64 z.reg])).run Tryz.prog w = .ok (.bool (!ctlEq y z)) w := neq_ctl y.kind y.slave y.reg z.kind z.slave z.reg
      rcases Bool.eq_false_or_eq_true (ctlEq y z) with h0 | h0
      · have HN2 := Lib.hid (HN.out h0)
        clear HN HE
        rw [h0] at hne
        clear h0
        go_wp2
        go_quiet (fail)
        go_wp2
        go_roundg (l.length - (i + 1))
        case measure => omega
        case rel => exact ⟨i + 1, by omega, rfl, next_i64' i HJ.out, Lib.hid ⟨HN2.out, HB.out.trans ((below_drewN (Below.refl _ _) _).mono HB.out.size)⟩⟩
      · have HE2 := Lib.hid (HE.out h0)
        clear HN HE
        rw [h0] at hne
        clear h0
        go_wp2
        go_quiet (fail)
        go_wp2
        go_ret
        rw [HE2.out]
        exact ⟨rfl, HB.out.trans ((below_drewN (Below.refl _ _) _).mono HB.out.size)⟩
    · have HR := Lib.hid (HI.out.1.all hlt HLEN.out)
      go_wp2
      go_ret
      rw [HR.out]
      exact ⟨rfl, HI.out.2⟩
end Go.Proofs.YtpocjmlkhophoaaGreatDoor
