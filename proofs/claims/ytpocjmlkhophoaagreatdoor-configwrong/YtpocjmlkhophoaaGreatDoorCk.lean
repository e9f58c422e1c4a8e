/- config's isWithin, isUnscaled, isOfKind, isPoll, isControl, isRoom: what each answers, for every argument; memory that was there stands. -/
import Derived.Test.YtpocjmlkhophoaaGreatDoorCfg
namespace Go.Proofs.YtpocjmlkhophoaaGreatDoor
open Go.RowKit Go.Extern.Stop Go.Stop Go.Extern

theorem within_true {n a b : Int} (h : within n a b = true) : a ≤ n ∧ n ≤ b := by simpa [within] using h
theorem within_false {n a b : Int} (h : within n a b = false) : n < a ∨ b < n := by simp [within] at h; omega
set_option maxHeartbeats 400000 in
theorem cw_any (n a b : Int) (w : World) : Calls Tryz.prog 104 #[.int .i64 n, .int .i64 a, .int .i64 b] w fun e w' => e = .returned (.bool (within n a b)) ∧ w = w' := by
  by_cases h1 : a ≤ n
  · by_cases h2 : n ≤ b
    · have e : within n a b = true := by simp [within, h1, h2]
      have E := Lib.hid e
      clear e
      go_enter Tryz.func104, Tryz.ntmps104
      go_wp2
      go_ret
      rw [E.out]
      exact ⟨rfl, rfl⟩
    · have e : within n a b = false := by simp [within, h2]
      have E := Lib.hid e
      clear e
      go_enter Tryz.func104, Tryz.ntmps104
      go_wp2
      go_ret
      rw [E.out]
      exact ⟨rfl, rfl⟩
  · have e : within n a b = false := by simp [within, h1]
    have E := Lib.hid e
    clear e
    go_enter Tryz.func104, Tryz.ntmps104
    go_wp2
    go_ret
    rw [E.out]
    exact ⟨rfl, rfl⟩

set_option maxHeartbeats 1000000 in
theorem poll_any (a f s c v ns : Int) (w : World) (hn0 : 0 ≤ ns) (hn1 : ns ≤ 1000000) : Calls Tryz.prog 111 #[.agg #[.int .i64 a, .int .i64 f, .int .i64 s, .int .i64 c, .int .i64 v], .int .i64 ns] w fun e' w' => e' = .returned (.bool (pollN ⟨a, f, s, c, v⟩ ns)) ∧ Below w.heap.size w w' := by
  have HB := Lib.hid (below_new w (.cells #[.int .i64 a, .int .i64 f, .int .i64 s, .int .i64 c, .int .i64 v] 68))
  rcases Bool.eq_false_or_eq_true (within a 0 (ns - 1)) with h0 | h0
  · rcases Bool.eq_false_or_eq_true (within f 1 4) with h1 | h1
    · rcases Bool.eq_false_or_eq_true (within c 1 100) with h2 | h2
      · obtain ⟨g1, g2⟩ := within_true h2
        rcases Bool.eq_false_or_eq_true (within s 0 (65536 - c)) with h3 | h3
        · rcases Bool.eq_false_or_eq_true (within v 1 10000) with h4 | h4
          · have E := Lib.hid (show pollN ⟨a, f, s, c, v⟩ ns = true by simp [pollN, h0, h1, h2, h3, h4])
            go_enter Tryz.func111, Tryz.ntmps111
            go_wp2_with fail
            refine (cw_any _ _ _ _).mono ?_
            rintro e' w' ⟨rfl, h⟩
            subst h
            rw [h0]
            go_wp2_with fail
            refine (cw_any _ _ _ _).mono ?_
            rintro e' w' ⟨rfl, h⟩
            subst h
            rw [h1]
            go_wp2_with fail
            refine (cw_any _ _ _ _).mono ?_
            rintro e' w' ⟨rfl, h⟩
            subst h
            rw [h2]
            go_wp2_with fail
            refine (cw_any _ _ _ _).mono ?_
            rintro e' w' ⟨rfl, h⟩
            subst h
            rw [h3]
            go_wp2_with fail
            refine (cw_any _ _ _ _).mono ?_
            rintro e' w' ⟨rfl, h⟩
            subst h
            rw [h4]
            go_wp2
            go_ret
            rw [E.out]
            exact ⟨rfl, HB.out⟩
          · have E := Lib.hid (show pollN ⟨a, f, s, c, v⟩ ns = false by simp [pollN, h0, h1, h2, h3, h4])
            go_enter Tryz.func111, Tryz.ntmps111
            go_wp2_with fail
            refine (cw_any _ _ _ _).mono ?_
            rintro e' w' ⟨rfl, h⟩
            subst h
            rw [h0]
            go_wp2_with fail
            refine (cw_any _ _ _ _).mono ?_
            rintro e' w' ⟨rfl, h⟩
            subst h
            rw [h1]
            go_wp2_with fail
            refine (cw_any _ _ _ _).mono ?_
            rintro e' w' ⟨rfl, h⟩
            subst h
            rw [h2]
            go_wp2_with fail
            refine (cw_any _ _ _ _).mono ?_
            rintro e' w' ⟨rfl, h⟩
            subst h
            rw [h3]
            go_wp2_with fail
            refine (cw_any _ _ _ _).mono ?_
            rintro e' w' ⟨rfl, h⟩
            subst h
            rw [h4]
            go_wp2
            go_ret
            rw [E.out]
            exact ⟨rfl, HB.out⟩
        · have E := Lib.hid (show pollN ⟨a, f, s, c, v⟩ ns = false by simp [pollN, h0, h1, h2, h3])
          go_enter Tryz.func111, Tryz.ntmps111
          go_wp2_with fail
          refine (cw_any _ _ _ _).mono ?_
          rintro e' w' ⟨rfl, h⟩
          subst h
          rw [h0]
          go_wp2_with fail
          refine (cw_any _ _ _ _).mono ?_
          rintro e' w' ⟨rfl, h⟩
          subst h
          rw [h1]
          go_wp2_with fail
          refine (cw_any _ _ _ _).mono ?_
          rintro e' w' ⟨rfl, h⟩
          subst h
          rw [h2]
          go_wp2_with fail
          refine (cw_any _ _ _ _).mono ?_
          rintro e' w' ⟨rfl, h⟩
          subst h
          rw [h3]
          go_wp2
          go_ret
          rw [E.out]
          exact ⟨rfl, HB.out⟩
      · have E := Lib.hid (show pollN ⟨a, f, s, c, v⟩ ns = false by simp [pollN, h0, h1, h2])
        go_enter Tryz.func111, Tryz.ntmps111
        go_wp2_with fail
        refine (cw_any _ _ _ _).mono ?_
        rintro e' w' ⟨rfl, h⟩
        subst h
        rw [h0]
        go_wp2_with fail
        refine (cw_any _ _ _ _).mono ?_
        rintro e' w' ⟨rfl, h⟩
        subst h
        rw [h1]
        go_wp2_with fail
        refine (cw_any _ _ _ _).mono ?_
        rintro e' w' ⟨rfl, h⟩
        subst h
        rw [h2]
        go_wp2
        go_ret
        rw [E.out]
        exact ⟨rfl, HB.out⟩
    · have E := Lib.hid (show pollN ⟨a, f, s, c, v⟩ ns = false by simp [pollN, h0, h1])
      go_enter Tryz.func111, Tryz.ntmps111
      go_wp2_with fail
      refine (cw_any _ _ _ _).mono ?_
      rintro e' w' ⟨rfl, h⟩
      subst h
      rw [h0]
      go_wp2_with fail
      refine (cw_any _ _ _ _).mono ?_
      rintro e' w' ⟨rfl, h⟩
      subst h
      rw [h1]
      go_wp2
      go_ret
      rw [E.out]
      exact ⟨rfl, HB.out⟩
  · have E := Lib.hid (show pollN ⟨a, f, s, c, v⟩ ns = false by simp [pollN, h0])
    go_enter Tryz.func111, Tryz.ntmps111
    go_wp2_with fail
    refine (cw_any _ _ _ _).mono ?_
    rintro e' w' ⟨rfl, h⟩
    subst h
    rw [h0]
    go_wp2
    go_ret
    rw [E.out]
    exact ⟨rfl, HB.out⟩

set_option maxHeartbeats 1000000 in
theorem unsc_any (k q l c d n e o : Int) (w : World) : Calls Tryz.prog 163 #[.agg #[.int .i64 k, .int .i64 q, .int .i64 l, .int .i64 c, .int .i64 d, .int .i64 n, .int .i64 e, .int .i64 o]] w fun e' w' => e' = .returned (.bool (unscaledN ⟨k, q, l, c, d, n, e, o⟩)) ∧ Below w.heap.size w w' := by
  have HB := Lib.hid (below_new w (.cells #[.int .i64 k, .int .i64 q, .int .i64 l, .int .i64 c, .int .i64 d, .int .i64 n, .int .i64 e, .int .i64 o] 62))
  rcases Bool.eq_false_or_eq_true (n == 1) with h0 | h0
  · rcases Bool.eq_false_or_eq_true (e == 1) with h1 | h1
    · rcases Bool.eq_false_or_eq_true (o == 0) with h2 | h2
      · rcases Bool.eq_false_or_eq_true (d == 0) with h3 | h3
        · have E := Lib.hid (show unscaledN ⟨k, q, l, c, d, n, e, o⟩ = true by simp [unscaledN, h0, h1, h2, h3])
          go_enter Tryz.func163, Tryz.ntmps163
          go_wp2
          go_ret
          rw [E.out]
          exact ⟨rfl, HB.out⟩
        · have E := Lib.hid (show unscaledN ⟨k, q, l, c, d, n, e, o⟩ = false by simp [unscaledN, h0, h1, h2, h3])
          go_enter Tryz.func163, Tryz.ntmps163
          go_wp2
          go_ret
          rw [E.out]
          exact ⟨rfl, HB.out⟩
      · have E := Lib.hid (show unscaledN ⟨k, q, l, c, d, n, e, o⟩ = false by simp [unscaledN, h0, h1, h2])
        go_enter Tryz.func163, Tryz.ntmps163
        go_wp2
        go_ret
        rw [E.out]
        exact ⟨rfl, HB.out⟩
    · have E := Lib.hid (show unscaledN ⟨k, q, l, c, d, n, e, o⟩ = false by simp [unscaledN, h0, h1])
      go_enter Tryz.func163, Tryz.ntmps163
      go_wp2
      go_ret
      rw [E.out]
      exact ⟨rfl, HB.out⟩
  · have E := Lib.hid (show unscaledN ⟨k, q, l, c, d, n, e, o⟩ = false by simp [unscaledN, h0])
    go_enter Tryz.func163, Tryz.ntmps163
    go_wp2
    go_ret
    rw [E.out]
    exact ⟨rfl, HB.out⟩

set_option maxHeartbeats 2000000 in
theorem ctl_any (k s r ns : Int) (w : World) (hn0 : 0 ≤ ns) (hn1 : ns ≤ 1000000) : Calls Tryz.prog 115 #[.agg #[.int .i64 k, .int .i64 s, .int .i64 r], .int .i64 ns] w fun e' w' => e' = .returned (.bool (ctlN ⟨k, s, r⟩ ns)) ∧ Below w.heap.size w w' := by
  have HB := Lib.hid (below_new w (.cells #[.int .i64 k, .int .i64 s, .int .i64 r] 70))
  rcases Bool.eq_false_or_eq_true (k == 6) with j0 | j0
  · rcases Bool.eq_false_or_eq_true (within s 0 (ns - 1)) with h0 | h0
    · rcases Bool.eq_false_or_eq_true (within r 0 65535) with h1 | h1
      · have E := Lib.hid (show ctlN ⟨k, s, r⟩ ns = true by simp [ctlN, j0, h0, h1])
        go_enter Tryz.func115, Tryz.ntmps115
        go_wp2_with fail
        refine (cw_any _ _ _ _).mono ?_
        rintro e' w' ⟨rfl, h⟩
        subst h
        rw [h0]
        go_wp2_with fail
        refine (cw_any _ _ _ _).mono ?_
        rintro e' w' ⟨rfl, h⟩
        subst h
        rw [h1]
        go_wp2
        go_ret
        rw [E.out]
        exact ⟨rfl, HB.out⟩
      · have E := Lib.hid (show ctlN ⟨k, s, r⟩ ns = false by simp [ctlN, j0, h0, h1])
        go_enter Tryz.func115, Tryz.ntmps115
        go_wp2_with fail
        refine (cw_any _ _ _ _).mono ?_
        rintro e' w' ⟨rfl, h⟩
        subst h
        rw [h0]
        go_wp2_with fail
        refine (cw_any _ _ _ _).mono ?_
        rintro e' w' ⟨rfl, h⟩
        subst h
        rw [h1]
        go_wp2
        go_ret
        rw [E.out]
        exact ⟨rfl, HB.out⟩
    · have E := Lib.hid (show ctlN ⟨k, s, r⟩ ns = false by simp [ctlN, j0, h0])
      go_enter Tryz.func115, Tryz.ntmps115
      go_wp2_with fail
      refine (cw_any _ _ _ _).mono ?_
      rintro e' w' ⟨rfl, h⟩
      subst h
      rw [h0]
      go_wp2
      go_ret
      rw [E.out]
      exact ⟨rfl, HB.out⟩
  · rcases Bool.eq_false_or_eq_true (k == 7) with j1 | j1
    · rcases Bool.eq_false_or_eq_true (within s 0 (ns - 1)) with h0 | h0
      · rcases Bool.eq_false_or_eq_true (within r 0 65535) with h1 | h1
        · have E := Lib.hid (show ctlN ⟨k, s, r⟩ ns = true by simp [ctlN, j0, j1, h0, h1])
          go_enter Tryz.func115, Tryz.ntmps115
          go_wp2_with fail
          refine (cw_any _ _ _ _).mono ?_
          rintro e' w' ⟨rfl, h⟩
          subst h
          rw [h0]
          go_wp2_with fail
          refine (cw_any _ _ _ _).mono ?_
          rintro e' w' ⟨rfl, h⟩
          subst h
          rw [h1]
          go_wp2
          go_ret
          rw [E.out]
          exact ⟨rfl, HB.out⟩
        · have E := Lib.hid (show ctlN ⟨k, s, r⟩ ns = false by simp [ctlN, j0, j1, h0, h1])
          go_enter Tryz.func115, Tryz.ntmps115
          go_wp2_with fail
          refine (cw_any _ _ _ _).mono ?_
          rintro e' w' ⟨rfl, h⟩
          subst h
          rw [h0]
          go_wp2_with fail
          refine (cw_any _ _ _ _).mono ?_
          rintro e' w' ⟨rfl, h⟩
          subst h
          rw [h1]
          go_wp2
          go_ret
          rw [E.out]
          exact ⟨rfl, HB.out⟩
      · have E := Lib.hid (show ctlN ⟨k, s, r⟩ ns = false by simp [ctlN, j0, j1, h0])
        go_enter Tryz.func115, Tryz.ntmps115
        go_wp2_with fail
        refine (cw_any _ _ _ _).mono ?_
        rintro e' w' ⟨rfl, h⟩
        subst h
        rw [h0]
        go_wp2
        go_ret
        rw [E.out]
        exact ⟨rfl, HB.out⟩
    · have E := Lib.hid (show ctlN ⟨k, s, r⟩ ns = false by simp [ctlN, j0, j1])
      go_enter Tryz.func115, Tryz.ntmps115
      go_wp2
      go_ret
      rw [E.out]
      exact ⟨rfl, HB.out⟩

set_option maxHeartbeats 1000000 in
theorem kd_far (k q l c d n e o a f s t v : Int) (w : World) (_ht0 : 0 ≤ t) (_ht1 : t ≤ 1000) (hk : k = 2) (hp : t - 2 < l) : Calls Tryz.prog 137 #[.agg #[.int .i64 k, .int .i64 q, .int .i64 l, .int .i64 c, .int .i64 d, .int .i64 n, .int .i64 e, .int .i64 o], .agg #[.int .i64 a, .int .i64 f, .int .i64 s, .int .i64 t, .int .i64 v]] w fun e' w' => e' = .returned (.bool (kindN ⟨k, q, l, c, d, n, e, o⟩ ⟨a, f, s, t, v⟩)) ∧ Below w.heap.size w w' := by
  have HB := Lib.hid ((below_new w (.cells #[.int .i64 k, .int .i64 q, .int .i64 l, .int .i64 c, .int .i64 d, .int .i64 n, .int .i64 e, .int .i64 o] 62)).trans ((below_new (w.alloc (.cells #[.int .i64 k, .int .i64 q, .int .i64 l, .int .i64 c, .int .i64 d, .int .i64 n, .int .i64 e, .int .i64 o] 62)) (.cells #[.int .i64 a, .int .i64 f, .int .i64 s, .int .i64 t, .int .i64 v] 68)).mono (below_new w _).size))
  have E := Lib.hid (show kindN ⟨k, q, l, c, d, n, e, o⟩ ⟨a, f, s, t, v⟩ = false by subst hk; simp [kindN, hp])
  obtain rfl : k = 2 := hk
  go_enter Tryz.func137, Tryz.ntmps137
  go_wp2
  go_ret
  rw [E.out]
  exact ⟨rfl, HB.out⟩

set_option maxHeartbeats 1000000 in
theorem kd_f (k q l c d n e o a f s t v : Int) (w : World) (_ht0 : 0 ≤ t) (_ht1 : t ≤ 1000) (hk : k = 2) (hp : l ≤ t - 2) (hf : within f 1 2 = false) : Calls Tryz.prog 137 #[.agg #[.int .i64 k, .int .i64 q, .int .i64 l, .int .i64 c, .int .i64 d, .int .i64 n, .int .i64 e, .int .i64 o], .agg #[.int .i64 a, .int .i64 f, .int .i64 s, .int .i64 t, .int .i64 v]] w fun e' w' => e' = .returned (.bool (kindN ⟨k, q, l, c, d, n, e, o⟩ ⟨a, f, s, t, v⟩)) ∧ Below w.heap.size w w' := by
  have HB := Lib.hid ((below_new w (.cells #[.int .i64 k, .int .i64 q, .int .i64 l, .int .i64 c, .int .i64 d, .int .i64 n, .int .i64 e, .int .i64 o] 62)).trans ((below_new (w.alloc (.cells #[.int .i64 k, .int .i64 q, .int .i64 l, .int .i64 c, .int .i64 d, .int .i64 n, .int .i64 e, .int .i64 o] 62)) (.cells #[.int .i64 a, .int .i64 f, .int .i64 s, .int .i64 t, .int .i64 v] 68)).mono (below_new w _).size))
  have E := Lib.hid (show kindN ⟨k, q, l, c, d, n, e, o⟩ ⟨a, f, s, t, v⟩ = false by subst hk; simp [kindN, hf, show ¬ t - 2 < l by omega])
  obtain rfl : k = 2 := hk
  go_enter Tryz.func137, Tryz.ntmps137
  go_wp2_with fail
  refine (cw_any _ _ _ _).mono ?_
  rintro e' w' ⟨rfl, h⟩
  subst h
  rw [hf]
  go_wp2
  go_ret
  rw [E.out]
  exact ⟨rfl, HB.out⟩

set_option maxHeartbeats 1000000 in
theorem kd_t (k q l c d n e o a f s t v : Int) (w : World) (_ht0 : 0 ≤ t) (_ht1 : t ≤ 1000) (hk : k = 2) (hp : l ≤ t - 2) (hf : within f 1 2 = true) (u : Bool) (hu : unscaledN ⟨k, q, l, c, d, n, e, o⟩ = u) : Calls Tryz.prog 137 #[.agg #[.int .i64 k, .int .i64 q, .int .i64 l, .int .i64 c, .int .i64 d, .int .i64 n, .int .i64 e, .int .i64 o], .agg #[.int .i64 a, .int .i64 f, .int .i64 s, .int .i64 t, .int .i64 v]] w fun e' w' => e' = .returned (.bool (kindN ⟨k, q, l, c, d, n, e, o⟩ ⟨a, f, s, t, v⟩)) ∧ Below w.heap.size w w' := by
  have HB := Lib.hid ((below_new w (.cells #[.int .i64 k, .int .i64 q, .int .i64 l, .int .i64 c, .int .i64 d, .int .i64 n, .int .i64 e, .int .i64 o] 62)).trans ((below_new (w.alloc (.cells #[.int .i64 k, .int .i64 q, .int .i64 l, .int .i64 c, .int .i64 d, .int .i64 n, .int .i64 e, .int .i64 o] 62)) (.cells #[.int .i64 a, .int .i64 f, .int .i64 s, .int .i64 t, .int .i64 v] 68)).mono (below_new w _).size))
  have E := Lib.hid (show kindN ⟨k, q, l, c, d, n, e, o⟩ ⟨a, f, s, t, v⟩ = u by subst hk; simp [kindN, hf, hu, show ¬ t - 2 < l by omega])
  obtain rfl : k = 2 := hk
  go_enter Tryz.func137, Tryz.ntmps137
  go_wp2_with fail
  refine (cw_any _ _ _ _).mono ?_
  rintro e' w' ⟨rfl, h⟩
  subst h
  rw [hf]
  go_wp2_with fail
  refine (unsc_any _ _ _ _ _ _ _ _ _).mono ?_
  rintro e' w2 ⟨rfl, hb⟩
  have HB2 := Lib.hid (HB.out.trans (hb.mono HB.out.size))
  obtain ⟨bc, bf⟩ := bcell hb
  clear hb
  rw [hu]
  go_wp2
  go_ret
  rw [E.out]
  exact ⟨rfl, HB2.out⟩

set_option maxHeartbeats 1000000 in
theorem kb_f (k q l c d n e o a f s t v : Int) (w : World) (_ht0 : 0 ≤ t) (_ht1 : t ≤ 1000) (hk : k = 1) (hf : within f 1 2 = false) : Calls Tryz.prog 137 #[.agg #[.int .i64 k, .int .i64 q, .int .i64 l, .int .i64 c, .int .i64 d, .int .i64 n, .int .i64 e, .int .i64 o], .agg #[.int .i64 a, .int .i64 f, .int .i64 s, .int .i64 t, .int .i64 v]] w fun e' w' => e' = .returned (.bool (kindN ⟨k, q, l, c, d, n, e, o⟩ ⟨a, f, s, t, v⟩)) ∧ Below w.heap.size w w' := by
  have HB := Lib.hid ((below_new w (.cells #[.int .i64 k, .int .i64 q, .int .i64 l, .int .i64 c, .int .i64 d, .int .i64 n, .int .i64 e, .int .i64 o] 62)).trans ((below_new (w.alloc (.cells #[.int .i64 k, .int .i64 q, .int .i64 l, .int .i64 c, .int .i64 d, .int .i64 n, .int .i64 e, .int .i64 o] 62)) (.cells #[.int .i64 a, .int .i64 f, .int .i64 s, .int .i64 t, .int .i64 v] 68)).mono (below_new w _).size))
  have E := Lib.hid (show kindN ⟨k, q, l, c, d, n, e, o⟩ ⟨a, f, s, t, v⟩ = false by subst hk; simp [kindN, hf])
  obtain rfl : k = 1 := hk
  go_enter Tryz.func137, Tryz.ntmps137
  go_wp2_with fail
  refine (cw_any _ _ _ _).mono ?_
  rintro e' w' ⟨rfl, h⟩
  subst h
  rw [hf]
  go_wp2
  go_ret
  rw [E.out]
  exact ⟨rfl, HB.out⟩

set_option maxHeartbeats 1000000 in
theorem kb_t (k q l c d n e o a f s t v : Int) (w : World) (_ht0 : 0 ≤ t) (_ht1 : t ≤ 1000) (hk : k = 1) (hf : within f 1 2 = true) (u : Bool) (hu : unscaledN ⟨k, q, l, c, d, n, e, o⟩ = u) : Calls Tryz.prog 137 #[.agg #[.int .i64 k, .int .i64 q, .int .i64 l, .int .i64 c, .int .i64 d, .int .i64 n, .int .i64 e, .int .i64 o], .agg #[.int .i64 a, .int .i64 f, .int .i64 s, .int .i64 t, .int .i64 v]] w fun e' w' => e' = .returned (.bool (kindN ⟨k, q, l, c, d, n, e, o⟩ ⟨a, f, s, t, v⟩)) ∧ Below w.heap.size w w' := by
  have HB := Lib.hid ((below_new w (.cells #[.int .i64 k, .int .i64 q, .int .i64 l, .int .i64 c, .int .i64 d, .int .i64 n, .int .i64 e, .int .i64 o] 62)).trans ((below_new (w.alloc (.cells #[.int .i64 k, .int .i64 q, .int .i64 l, .int .i64 c, .int .i64 d, .int .i64 n, .int .i64 e, .int .i64 o] 62)) (.cells #[.int .i64 a, .int .i64 f, .int .i64 s, .int .i64 t, .int .i64 v] 68)).mono (below_new w _).size))
  have E := Lib.hid (show kindN ⟨k, q, l, c, d, n, e, o⟩ ⟨a, f, s, t, v⟩ = u by subst hk; simp [kindN, hf, hu])
  obtain rfl : k = 1 := hk
  go_enter Tryz.func137, Tryz.ntmps137
  go_wp2_with fail
  refine (cw_any _ _ _ _).mono ?_
  rintro e' w' ⟨rfl, h⟩
  subst h
  rw [hf]
  go_wp2_with fail
  refine (unsc_any _ _ _ _ _ _ _ _ _).mono ?_
  rintro e' w2 ⟨rfl, hb⟩
  have HB2 := Lib.hid (HB.out.trans (hb.mono HB.out.size))
  obtain ⟨bc, bf⟩ := bcell hb
  clear hb
  rw [hu]
  go_wp2
  go_ret
  rw [E.out]
  exact ⟨rfl, HB2.out⟩

set_option maxHeartbeats 1000000 in
theorem kc_f (k q l c d n e o a f s t v : Int) (w : World) (_ht0 : 0 ≤ t) (_ht1 : t ≤ 1000) (hk : k = 4) (hu : unscaledN ⟨k, q, l, c, d, n, e, o⟩ = false) : Calls Tryz.prog 137 #[.agg #[.int .i64 k, .int .i64 q, .int .i64 l, .int .i64 c, .int .i64 d, .int .i64 n, .int .i64 e, .int .i64 o], .agg #[.int .i64 a, .int .i64 f, .int .i64 s, .int .i64 t, .int .i64 v]] w fun e' w' => e' = .returned (.bool (kindN ⟨k, q, l, c, d, n, e, o⟩ ⟨a, f, s, t, v⟩)) ∧ Below w.heap.size w w' := by
  have HB := Lib.hid ((below_new w (.cells #[.int .i64 k, .int .i64 q, .int .i64 l, .int .i64 c, .int .i64 d, .int .i64 n, .int .i64 e, .int .i64 o] 62)).trans ((below_new (w.alloc (.cells #[.int .i64 k, .int .i64 q, .int .i64 l, .int .i64 c, .int .i64 d, .int .i64 n, .int .i64 e, .int .i64 o] 62)) (.cells #[.int .i64 a, .int .i64 f, .int .i64 s, .int .i64 t, .int .i64 v] 68)).mono (below_new w _).size))
  have E := Lib.hid (show kindN ⟨k, q, l, c, d, n, e, o⟩ ⟨a, f, s, t, v⟩ = false by subst hk; simp [kindN, hu])
  obtain rfl : k = 4 := hk
  go_enter Tryz.func137, Tryz.ntmps137
  go_wp2_with fail
  refine (unsc_any _ _ _ _ _ _ _ _ _).mono ?_
  rintro e' w2 ⟨rfl, hb⟩
  have HB2 := Lib.hid (HB.out.trans (hb.mono HB.out.size))
  obtain ⟨bc, bf⟩ := bcell hb
  clear hb
  rw [hu]
  go_wp2
  go_ret
  rw [E.out]
  exact ⟨rfl, HB2.out⟩

set_option maxHeartbeats 1000000 in
theorem kc_t (k q l c d n e o a f s t v : Int) (w : World) (_ht0 : 0 ≤ t) (_ht1 : t ≤ 1000) (hk : k = 4) (hu : unscaledN ⟨k, q, l, c, d, n, e, o⟩ = true) : Calls Tryz.prog 137 #[.agg #[.int .i64 k, .int .i64 q, .int .i64 l, .int .i64 c, .int .i64 d, .int .i64 n, .int .i64 e, .int .i64 o], .agg #[.int .i64 a, .int .i64 f, .int .i64 s, .int .i64 t, .int .i64 v]] w fun e' w' => e' = .returned (.bool (kindN ⟨k, q, l, c, d, n, e, o⟩ ⟨a, f, s, t, v⟩)) ∧ Below w.heap.size w w' := by
  have HB := Lib.hid ((below_new w (.cells #[.int .i64 k, .int .i64 q, .int .i64 l, .int .i64 c, .int .i64 d, .int .i64 n, .int .i64 e, .int .i64 o] 62)).trans ((below_new (w.alloc (.cells #[.int .i64 k, .int .i64 q, .int .i64 l, .int .i64 c, .int .i64 d, .int .i64 n, .int .i64 e, .int .i64 o] 62)) (.cells #[.int .i64 a, .int .i64 f, .int .i64 s, .int .i64 t, .int .i64 v] 68)).mono (below_new w _).size))
  have E := Lib.hid (show kindN ⟨k, q, l, c, d, n, e, o⟩ ⟨a, f, s, t, v⟩ = within f 3 4 by subst hk; simp [kindN, hu])
  obtain rfl : k = 4 := hk
  go_enter Tryz.func137, Tryz.ntmps137
  go_wp2_with fail
  refine (unsc_any _ _ _ _ _ _ _ _ _).mono ?_
  rintro e' w2 ⟨rfl, hb⟩
  have HB2 := Lib.hid (HB.out.trans (hb.mono HB.out.size))
  obtain ⟨bc, bf⟩ := bcell hb
  clear hb
  rw [hu]
  go_wp2_with fail
  refine (cw_any _ _ _ _).mono ?_
  rintro e' w' ⟨rfl, h⟩
  subst h
  go_wp2
  go_ret
  rw [E.out]
  exact ⟨rfl, HB2.out⟩

set_option maxHeartbeats 1000000 in
theorem ka_any (k q l c d n e o a f s t v : Int) (w : World) (_ht0 : 0 ≤ t) (_ht1 : t ≤ 1000) (hk : k = 3) : Calls Tryz.prog 137 #[.agg #[.int .i64 k, .int .i64 q, .int .i64 l, .int .i64 c, .int .i64 d, .int .i64 n, .int .i64 e, .int .i64 o], .agg #[.int .i64 a, .int .i64 f, .int .i64 s, .int .i64 t, .int .i64 v]] w fun e' w' => e' = .returned (.bool (kindN ⟨k, q, l, c, d, n, e, o⟩ ⟨a, f, s, t, v⟩)) ∧ Below w.heap.size w w' := by
  have HB := Lib.hid ((below_new w (.cells #[.int .i64 k, .int .i64 q, .int .i64 l, .int .i64 c, .int .i64 d, .int .i64 n, .int .i64 e, .int .i64 o] 62)).trans ((below_new (w.alloc (.cells #[.int .i64 k, .int .i64 q, .int .i64 l, .int .i64 c, .int .i64 d, .int .i64 n, .int .i64 e, .int .i64 o] 62)) (.cells #[.int .i64 a, .int .i64 f, .int .i64 s, .int .i64 t, .int .i64 v] 68)).mono (below_new w _).size))
  have E := Lib.hid (show kindN ⟨k, q, l, c, d, n, e, o⟩ ⟨a, f, s, t, v⟩ = within f 3 4 by subst hk; simp [kindN])
  obtain rfl : k = 3 := hk
  go_enter Tryz.func137, Tryz.ntmps137
  go_wp2_with fail
  refine (cw_any _ _ _ _).mono ?_
  rintro e' w' ⟨rfl, h⟩
  subst h
  go_wp2
  go_ret
  rw [E.out]
  exact ⟨rfl, HB.out⟩

set_option maxHeartbeats 1000000 in
theorem kn_any (k q l c d n e o a f s t v : Int) (w : World) (_ht0 : 0 ≤ t) (_ht1 : t ≤ 1000) (h1 : k ≠ 1) (h2 : k ≠ 2) (h3 : k ≠ 3) (h4 : k ≠ 4) : Calls Tryz.prog 137 #[.agg #[.int .i64 k, .int .i64 q, .int .i64 l, .int .i64 c, .int .i64 d, .int .i64 n, .int .i64 e, .int .i64 o], .agg #[.int .i64 a, .int .i64 f, .int .i64 s, .int .i64 t, .int .i64 v]] w fun e' w' => e' = .returned (.bool (kindN ⟨k, q, l, c, d, n, e, o⟩ ⟨a, f, s, t, v⟩)) ∧ Below w.heap.size w w' := by
  have HB := Lib.hid ((below_new w (.cells #[.int .i64 k, .int .i64 q, .int .i64 l, .int .i64 c, .int .i64 d, .int .i64 n, .int .i64 e, .int .i64 o] 62)).trans ((below_new (w.alloc (.cells #[.int .i64 k, .int .i64 q, .int .i64 l, .int .i64 c, .int .i64 d, .int .i64 n, .int .i64 e, .int .i64 o] 62)) (.cells #[.int .i64 a, .int .i64 f, .int .i64 s, .int .i64 t, .int .i64 v] 68)).mono (below_new w _).size))
  have E := Lib.hid (show kindN ⟨k, q, l, c, d, n, e, o⟩ ⟨a, f, s, t, v⟩ = false by simp [kindN, h1, h2, h3, h4])
  have b1 : (k == 1) = false := by simpa using h1
  have b2 : (k == 2) = false := by simpa using h2
  have b3 : (k == 3) = false := by simpa using h3
  have b4 : (k == 4) = false := by simpa using h4
  clear h1 h2 h3 h4
  go_enter Tryz.func137, Tryz.ntmps137
  go_wp2
  go_ret
  rw [E.out]
  exact ⟨rfl, HB.out⟩

theorem kind_any (k q l c d n e o a f s t v : Int) (w : World) (ht0 : 0 ≤ t) (ht1 : t ≤ 1000) : Calls Tryz.prog 137 #[.agg #[.int .i64 k, .int .i64 q, .int .i64 l, .int .i64 c, .int .i64 d, .int .i64 n, .int .i64 e, .int .i64 o], .agg #[.int .i64 a, .int .i64 f, .int .i64 s, .int .i64 t, .int .i64 v]] w fun e' w' => e' = .returned (.bool (kindN ⟨k, q, l, c, d, n, e, o⟩ ⟨a, f, s, t, v⟩)) ∧ Below w.heap.size w w' := by
  by_cases h2 : k = 2
  · by_cases hp : t - 2 < l
    · exact kd_far _ _ _ _ _ _ _ _ _ _ _ _ _ w ht0 ht1 h2 hp
    · rcases Bool.eq_false_or_eq_true (within f 1 2) with hf | hf
      · exact kd_t _ _ _ _ _ _ _ _ _ _ _ _ _ w ht0 ht1 h2 (by omega) hf _ rfl
      · exact kd_f _ _ _ _ _ _ _ _ _ _ _ _ _ w ht0 ht1 h2 (by omega) hf
  by_cases h1 : k = 1
  · rcases Bool.eq_false_or_eq_true (within f 1 2) with hf | hf
    · exact kb_t _ _ _ _ _ _ _ _ _ _ _ _ _ w ht0 ht1 h1 hf _ rfl
    · exact kb_f _ _ _ _ _ _ _ _ _ _ _ _ _ w ht0 ht1 h1 hf
  by_cases h4 : k = 4
  · rcases Bool.eq_false_or_eq_true (unscaledN ⟨k, q, l, c, d, n, e, o⟩) with hu | hu
    · exact kc_t _ _ _ _ _ _ _ _ _ _ _ _ _ w ht0 ht1 h4 hu
    · exact kc_f _ _ _ _ _ _ _ _ _ _ _ _ _ w ht0 ht1 h4 hu
  by_cases h3 : k = 3
  · exact ka_any _ _ _ _ _ _ _ _ _ _ _ _ _ w ht0 ht1 h3
  exact kn_any _ _ _ _ _ _ _ _ _ _ _ _ _ w ht0 ht1 h1 h2 h3 h4

end Go.Proofs.YtpocjmlkhophoaaGreatDoor
