/- scale.May, the document's MayScale, and the law's p: what each returns; memory that was there stands. -/
import Derived.Test.YtpnmnghhcekfnaaBase
namespace Go.Proofs.Ytpnmnghhcekfnaa
open Go.RowKit

def mayN (d n e o : Int) : Bool := within n (-1000) 1000 && (within e 1 1000 && (within o (-1000000) 1000000 && within d 0 1000000))

theorem below_box (w : World) (o : Obj) : Below w.heap.size w (w.alloc o) := (Below.refl _ w).alloc (Nat.le_refl _) _
set_option maxHeartbeats 1000000 in
theorem may_any (k q l c d n e o : Int) (w : World) : Calls Try.prog 13 #[.agg #[.int .i64 k, .int .i64 q, .int .i64 l, .int .i64 c, .int .i64 d, .int .i64 n, .int .i64 e, .int .i64 o]] w fun e' w' => e' = .returned (.bool (mayN d n e o)) ∧ Below w.heap.size w w' := by
  have HB := Lib.hid (below_box w (.cells #[.int .i64 k, .int .i64 q, .int .i64 l, .int .i64 c, .int .i64 d, .int .i64 n, .int .i64 e, .int .i64 o] 23))
  rcases Bool.eq_false_or_eq_true (within n (-1000) 1000) with h0 | h0
  · rcases Bool.eq_false_or_eq_true (within e 1 1000) with h1 | h1
    · rcases Bool.eq_false_or_eq_true (within o (-1000000) 1000000) with h2 | h2
      · rcases Bool.eq_false_or_eq_true (within d 0 1000000) with h3 | h3
        · have E := Lib.hid (show mayN d n e o = true by simp [mayN, h0, h1, h2, h3])
          go_enter Try.func13, Try.ntmps13
          go_wp2_with fail
          refine (within_any _ _ _ _).mono ?_
          rintro e' w' ⟨rfl, h⟩
          subst h
          rw [h0]
          go_wp2_with fail
          refine (within_any _ _ _ _).mono ?_
          rintro e' w' ⟨rfl, h⟩
          subst h
          rw [h1]
          go_wp2_with fail
          refine (within_any _ _ _ _).mono ?_
          rintro e' w' ⟨rfl, h⟩
          subst h
          rw [h2]
          go_wp2_with fail
          refine (within_any _ _ _ _).mono ?_
          rintro e' w' ⟨rfl, h⟩
          subst h
          rw [h3]
          go_wp2
          go_ret
          rw [E.out]
          exact ⟨rfl, HB.out⟩
        · have E := Lib.hid (show mayN d n e o = false by simp [mayN, h0, h1, h2, h3])
          go_enter Try.func13, Try.ntmps13
          go_wp2_with fail
          refine (within_any _ _ _ _).mono ?_
          rintro e' w' ⟨rfl, h⟩
          subst h
          rw [h0]
          go_wp2_with fail
          refine (within_any _ _ _ _).mono ?_
          rintro e' w' ⟨rfl, h⟩
          subst h
          rw [h1]
          go_wp2_with fail
          refine (within_any _ _ _ _).mono ?_
          rintro e' w' ⟨rfl, h⟩
          subst h
          rw [h2]
          go_wp2_with fail
          refine (within_any _ _ _ _).mono ?_
          rintro e' w' ⟨rfl, h⟩
          subst h
          rw [h3]
          go_wp2
          go_ret
          rw [E.out]
          exact ⟨rfl, HB.out⟩
      · have E := Lib.hid (show mayN d n e o = false by simp [mayN, h0, h1, h2])
        go_enter Try.func13, Try.ntmps13
        go_wp2_with fail
        refine (within_any _ _ _ _).mono ?_
        rintro e' w' ⟨rfl, h⟩
        subst h
        rw [h0]
        go_wp2_with fail
        refine (within_any _ _ _ _).mono ?_
        rintro e' w' ⟨rfl, h⟩
        subst h
        rw [h1]
        go_wp2_with fail
        refine (within_any _ _ _ _).mono ?_
        rintro e' w' ⟨rfl, h⟩
        subst h
        rw [h2]
        go_wp2
        go_ret
        rw [E.out]
        exact ⟨rfl, HB.out⟩
    · have E := Lib.hid (show mayN d n e o = false by simp [mayN, h0, h1])
      go_enter Try.func13, Try.ntmps13
      go_wp2_with fail
      refine (within_any _ _ _ _).mono ?_
      rintro e' w' ⟨rfl, h⟩
      subst h
      rw [h0]
      go_wp2_with fail
      refine (within_any _ _ _ _).mono ?_
      rintro e' w' ⟨rfl, h⟩
      subst h
      rw [h1]
      go_wp2
      go_ret
      rw [E.out]
      exact ⟨rfl, HB.out⟩
  · have E := Lib.hid (show mayN d n e o = false by simp [mayN, h0])
    go_enter Try.func13, Try.ntmps13
    go_wp2_with fail
    refine (within_any _ _ _ _).mono ?_
    rintro e' w' ⟨rfl, h⟩
    subst h
    rw [h0]
    go_wp2
    go_ret
    rw [E.out]
    exact ⟨rfl, HB.out⟩

set_option maxHeartbeats 2000000 in
theorem rmay_any (k q l c d n e o : Int) (w : World) : Calls Try.prog 14 #[.agg #[.int .i64 k, .int .i64 q, .int .i64 l, .int .i64 c, .int .i64 d, .int .i64 n, .int .i64 e, .int .i64 o]] w fun e' w' => e' = .returned (.bool (mayN d n e o)) ∧ Below w.heap.size w w' := by
  have HB := Lib.hid (below_box w (.cells #[.int .i64 k, .int .i64 q, .int .i64 l, .int .i64 c, .int .i64 d, .int .i64 n, .int .i64 e, .int .i64 o] 23))
  by_cases h0 : (-1000) ≤ n
  · by_cases h1 : n ≤ 1000
    · by_cases h2 : 1 ≤ e
      · by_cases h3 : e ≤ 1000
        · by_cases h4 : (-1000000) ≤ o
          · by_cases h5 : o ≤ 1000000
            · by_cases h6 : 0 ≤ d
              · by_cases h7 : d ≤ 1000000
                · have E := Lib.hid (show mayN d n e o = true by simp [mayN, within]; omega)
                  go_enter Try.func14, Try.ntmps14
                  go_wp2
                  go_ret
                  rw [E.out]
                  exact ⟨rfl, HB.out⟩
                · have E := Lib.hid (show mayN d n e o = false by simp [mayN, within]; omega)
                  go_enter Try.func14, Try.ntmps14
                  go_wp2
                  go_ret
                  rw [E.out]
                  exact ⟨rfl, HB.out⟩
              · have E := Lib.hid (show mayN d n e o = false by simp [mayN, within]; omega)
                go_enter Try.func14, Try.ntmps14
                go_wp2
                go_ret
                rw [E.out]
                exact ⟨rfl, HB.out⟩
            · have E := Lib.hid (show mayN d n e o = false by simp [mayN, within]; omega)
              go_enter Try.func14, Try.ntmps14
              go_wp2
              go_ret
              rw [E.out]
              exact ⟨rfl, HB.out⟩
          · have E := Lib.hid (show mayN d n e o = false by simp [mayN, within]; omega)
            go_enter Try.func14, Try.ntmps14
            go_wp2
            go_ret
            rw [E.out]
            exact ⟨rfl, HB.out⟩
        · have E := Lib.hid (show mayN d n e o = false by simp [mayN, within]; omega)
          go_enter Try.func14, Try.ntmps14
          go_wp2
          go_ret
          rw [E.out]
          exact ⟨rfl, HB.out⟩
      · have E := Lib.hid (show mayN d n e o = false by simp [mayN, within]; omega)
        go_enter Try.func14, Try.ntmps14
        go_wp2
        go_ret
        rw [E.out]
        exact ⟨rfl, HB.out⟩
    · have E := Lib.hid (show mayN d n e o = false by simp [mayN, within]; omega)
      go_enter Try.func14, Try.ntmps14
      go_wp2
      go_ret
      rw [E.out]
      exact ⟨rfl, HB.out⟩
  · have E := Lib.hid (show mayN d n e o = false by simp [mayN, within]; omega)
    go_enter Try.func14, Try.ntmps14
    go_wp2
    go_ret
    rw [E.out]
    exact ⟨rfl, HB.out⟩

set_option maxHeartbeats 1000000 in
theorem p_any (n e o : Int) (w : World) : Calls Try.prog 23 #[.int .i64 n, .int .i64 e, .int .i64 o] w fun e' w' => e' = .returned (.agg #[.int .i64 0, .int .i64 0, .int .i64 0, .int .i64 0, .int .i64 0, .int .i64 n, .int .i64 e, .int .i64 o]) ∧ Below w.heap.size w w' := by
  go_enter Try.func23, Try.ntmps23
  go_wp2
  refine bodyPost_ret (v := .agg #[.int .i64 0, .int .i64 0, .int .i64 0, .int .i64 0, .int .i64 0, .int .i64 n, .int .i64 e, .int .i64 o]) ?_ rfl ⟨rfl, ?_⟩
  · simp [results, Try.results23, go_sem]
  · exact below_box w _
end Go.Proofs.Ytpnmnghhcekfnaa
