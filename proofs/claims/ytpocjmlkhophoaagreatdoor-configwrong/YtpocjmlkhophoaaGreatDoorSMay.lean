/- scale.isWithin, scale.May and the document's MayScale: what each returns, for every argument; memory that was there stands. -/
import Derived.Test.YtpocjmlkhophoaaGreatDoorProg
import Derived.WalkKit
import Derived.WalkSpells
import Derived.Outline
import Derived.Lib.Hide
namespace Go.Proofs.YtpocjmlkhophoaaGreatDoor
open Go.RowKit

def within (n a b : Int) : Bool := decide (a ≤ n) && decide (n ≤ b)

set_option maxHeartbeats 400000 in
theorem within_any (n a b : Int) (w : World) : Calls Tryz.prog 162 #[.int .i64 n, .int .i64 a, .int .i64 b] w fun e w' => e = .returned (.bool (within n a b)) ∧ w = w' := by
  by_cases h1 : a ≤ n
  · by_cases h2 : n ≤ b
    · have e : within n a b = true := by simp [within, h1, h2]
      have E := Lib.hid e
      clear e
      go_enter Tryz.func162, Tryz.ntmps162
      go_wp2
      go_ret
      rw [E.out]
      exact ⟨rfl, rfl⟩
    · have e : within n a b = false := by simp [within, h2]
      have E := Lib.hid e
      clear e
      go_enter Tryz.func162, Tryz.ntmps162
      go_wp2
      go_ret
      rw [E.out]
      exact ⟨rfl, rfl⟩
  · have e : within n a b = false := by simp [within, h1]
    have E := Lib.hid e
    clear e
    go_enter Tryz.func162, Tryz.ntmps162
    go_wp2
    go_ret
    rw [E.out]
    exact ⟨rfl, rfl⟩


def mayN (d n e o : Int) : Bool := within n (-1000) 1000 && (within e 1 1000 && (within o (-1000000) 1000000 && within d 0 1000000))

theorem below_box (w : World) (o : Obj) : Below w.heap.size w (w.alloc o) := (Below.refl _ w).alloc (Nat.le_refl _) _
set_option maxHeartbeats 1000000 in
theorem may_any (k q l c d n e o : Int) (w : World) : Calls Tryz.prog 136 #[.agg #[.int .i64 k, .int .i64 q, .int .i64 l, .int .i64 c, .int .i64 d, .int .i64 n, .int .i64 e, .int .i64 o]] w fun e' w' => e' = .returned (.bool (mayN d n e o)) ∧ Below w.heap.size w w' := by
  have HB := Lib.hid (below_box w (.cells #[.int .i64 k, .int .i64 q, .int .i64 l, .int .i64 c, .int .i64 d, .int .i64 n, .int .i64 e, .int .i64 o] 62))
  rcases Bool.eq_false_or_eq_true (within n (-1000) 1000) with h0 | h0
  · rcases Bool.eq_false_or_eq_true (within e 1 1000) with h1 | h1
    · rcases Bool.eq_false_or_eq_true (within o (-1000000) 1000000) with h2 | h2
      · rcases Bool.eq_false_or_eq_true (within d 0 1000000) with h3 | h3
        · have E := Lib.hid (show mayN d n e o = true by simp [mayN, h0, h1, h2, h3])
          go_enter Tryz.func136, Tryz.ntmps136
          go_wp2_with fail
          refine (within_any _ _ _ _).mono ?_
          rintro e' w' ⟨rfl, h⟩
          subst h
          rw [h0]
          go_wp2_with fail
          refine (within_any _ _ _ _).mono ?_
          rintro e' w' ⟨rfl, h⟩
          subst h
          rw [h1]
          go_wp2_with fail
          refine (within_any _ _ _ _).mono ?_
          rintro e' w' ⟨rfl, h⟩
          subst h
          rw [h2]
          go_wp2_with fail
          refine (within_any _ _ _ _).mono ?_
          rintro e' w' ⟨rfl, h⟩
          subst h
          rw [h3]
          go_wp2
          go_ret
          rw [E.out]
          exact ⟨rfl, HB.out⟩
        · have E := Lib.hid (show mayN d n e o = false by simp [mayN, h0, h1, h2, h3])
          go_enter Tryz.func136, Tryz.ntmps136
          go_wp2_with fail
          refine (within_any _ _ _ _).mono ?_
          rintro e' w' ⟨rfl, h⟩
          subst h
          rw [h0]
          go_wp2_with fail
          refine (within_any _ _ _ _).mono ?_
          rintro e' w' ⟨rfl, h⟩
          subst h
          rw [h1]
          go_wp2_with fail
          refine (within_any _ _ _ _).mono ?_
          rintro e' w' ⟨rfl, h⟩
          subst h
          rw [h2]
          go_wp2_with fail
          refine (within_any _ _ _ _).mono ?_
          rintro e' w' ⟨rfl, h⟩
          subst h
          rw [h3]
          go_wp2
          go_ret
          rw [E.out]
          exact ⟨rfl, HB.out⟩
      · have E := Lib.hid (show mayN d n e o = false by simp [mayN, h0, h1, h2])
        go_enter Tryz.func136, Tryz.ntmps136
        go_wp2_with fail
        refine (within_any _ _ _ _).mono ?_
        rintro e' w' ⟨rfl, h⟩
        subst h
        rw [h0]
        go_wp2_with fail
        refine (within_any _ _ _ _).mono ?_
        rintro e' w' ⟨rfl, h⟩
        subst h
        rw [h1]
        go_wp2_with fail
        refine (within_any _ _ _ _).mono ?_
        rintro e' w' ⟨rfl, h⟩
        subst h
        rw [h2]
        go_wp2
        go_ret
        rw [E.out]
        exact ⟨rfl, HB.out⟩
    · have E := Lib.hid (show mayN d n e o = false by simp [mayN, h0, h1])
      go_enter Tryz.func136, Tryz.ntmps136
      go_wp2_with fail
      refine (within_any _ _ _ _).mono ?_
      rintro e' w' ⟨rfl, h⟩
      subst h
      rw [h0]
      go_wp2_with fail
      refine (within_any _ _ _ _).mono ?_
      rintro e' w' ⟨rfl, h⟩
      subst h
      rw [h1]
      go_wp2
      go_ret
      rw [E.out]
      exact ⟨rfl, HB.out⟩
  · have E := Lib.hid (show mayN d n e o = false by simp [mayN, h0])
    go_enter Tryz.func136, Tryz.ntmps136
    go_wp2_with fail
    refine (within_any _ _ _ _).mono ?_
    rintro e' w' ⟨rfl, h⟩
    subst h
    rw [h0]
    go_wp2
    go_ret
    rw [E.out]
    exact ⟨rfl, HB.out⟩

set_option maxHeartbeats 2000000 in
theorem rmay_any (k q l c d n e o : Int) (w : World) : Calls Tryz.prog 91 #[.agg #[.int .i64 k, .int .i64 q, .int .i64 l, .int .i64 c, .int .i64 d, .int .i64 n, .int .i64 e, .int .i64 o]] w fun e' w' => e' = .returned (.bool (mayN d n e o)) ∧ Below w.heap.size w w' := by
  have HB := Lib.hid (below_box w (.cells #[.int .i64 k, .int .i64 q, .int .i64 l, .int .i64 c, .int .i64 d, .int .i64 n, .int .i64 e, .int .i64 o] 62))
  by_cases h0 : (-1000) ≤ n
  · by_cases h1 : n ≤ 1000
    · by_cases h2 : 1 ≤ e
      · by_cases h3 : e ≤ 1000
        · by_cases h4 : (-1000000) ≤ o
          · by_cases h5 : o ≤ 1000000
            · by_cases h6 : 0 ≤ d
              · by_cases h7 : d ≤ 1000000
                · have E := Lib.hid (show mayN d n e o = true by simp [mayN, within]; omega)
                  go_enter Tryz.func91, Tryz.ntmps91
                  go_wp2
                  go_ret
                  rw [E.out]
                  exact ⟨rfl, HB.out⟩
                · have E := Lib.hid (show mayN d n e o = false by simp [mayN, within]; omega)
                  go_enter Tryz.func91, Tryz.ntmps91
                  go_wp2
                  go_ret
                  rw [E.out]
                  exact ⟨rfl, HB.out⟩
              · have E := Lib.hid (show mayN d n e o = false by simp [mayN, within]; omega)
                go_enter Tryz.func91, Tryz.ntmps91
                go_wp2
                go_ret
                rw [E.out]
                exact ⟨rfl, HB.out⟩
            · have E := Lib.hid (show mayN d n e o = false by simp [mayN, within]; omega)
              go_enter Tryz.func91, Tryz.ntmps91
              go_wp2
              go_ret
              rw [E.out]
              exact ⟨rfl, HB.out⟩
          · have E := Lib.hid (show mayN d n e o = false by simp [mayN, within]; omega)
            go_enter Tryz.func91, Tryz.ntmps91
            go_wp2
            go_ret
            rw [E.out]
            exact ⟨rfl, HB.out⟩
        · have E := Lib.hid (show mayN d n e o = false by simp [mayN, within]; omega)
          go_enter Tryz.func91, Tryz.ntmps91
          go_wp2
          go_ret
          rw [E.out]
          exact ⟨rfl, HB.out⟩
      · have E := Lib.hid (show mayN d n e o = false by simp [mayN, within]; omega)
        go_enter Tryz.func91, Tryz.ntmps91
        go_wp2
        go_ret
        rw [E.out]
        exact ⟨rfl, HB.out⟩
    · have E := Lib.hid (show mayN d n e o = false by simp [mayN, within]; omega)
      go_enter Tryz.func91, Tryz.ntmps91
      go_wp2
      go_ret
      rw [E.out]
      exact ⟨rfl, HB.out⟩
  · have E := Lib.hid (show mayN d n e o = false by simp [mayN, within]; omega)
    go_enter Tryz.func91, Tryz.ntmps91
    go_wp2
    go_ret
    rw [E.out]
    exact ⟨rfl, HB.out⟩


end Go.Proofs.YtpocjmlkhophoaaGreatDoor
