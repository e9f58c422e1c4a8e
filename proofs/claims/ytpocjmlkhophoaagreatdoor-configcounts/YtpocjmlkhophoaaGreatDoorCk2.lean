/- config.isRoom; slices.Index and slices.Contains at ints: what each answers; memory that was there stands. -/
import Derived.Test.YtpocjmlkhophoaaGreatDoorCk
namespace Go.Proofs.YtpocjmlkhophoaaGreatDoor
open Go.RowKit Go.Extern.Stop Go.Stop Go.Extern

theorem ix0 (a b c : Value) (w : World) : (Instr.index 22 (.agg #[a, b, c]) (.int .i64 0)).run Tryz.prog w = .ok a w := by kernel_rfl
theorem ix1 (a b c : Value) (w : World) : (Instr.index 22 (.agg #[a, b, c]) (.int .i64 1)).run Tryz.prog w = .ok b w := by kernel_rfl
theorem ix2 (a b c : Value) (w : World) : (Instr.index 22 (.agg #[a, b, c]) (.int .i64 2)).run Tryz.prog w = .ok c w := by kernel_rfl
def roomK (a b c : Int) : Nat → Bool
  | 0 => roomN a b c
  | 1 => within b 1 60 && within c 1 60
  | 2 => within c 1 60
  | _ => true
set_option maxRecDepth 100000 in
set_option maxHeartbeats 2000000 in
theorem room_any (a b c : Int) (w : World) : Calls Tryz.prog 105 #[.agg #[.int .i64 a, .int .i64 b, .int .i64 c]] w fun e w' => e = .returned (.bool (roomN a b c)) ∧ Below w.heap.size w w' := by
  have HB := Lib.hid (below_new w (.cells #[.int .i64 a, .int .i64 b, .int .i64 c] 22))
  go_enter Tryz.func105, Tryz.ntmps105
  go_wp2
  go_loop [6] (fun s => ∃ k : Nat, k ≤ 3 ∧ s = .int .i64 k ∧ Hid (roomK a b c k = roomN a b c)) (fun s => 3 - (intOf s).toNat)
  case atStart => exact ⟨0, Nat.zero_le _, rfl, Lib.hid rfl⟩
  case round =>
    obtain ⟨k, hk, rfl, HK⟩ := hrel
    have h4 : k = 0 ∨ k = 1 ∨ k = 2 ∨ k = 3 := by omega
    clear hk
    have x0 := ix0
    have x1 := ix1
    have x2 := ix2
    rcases h4 with rfl | rfl | rfl | rfl
    · rcases Bool.eq_false_or_eq_true (within a 1 60) with h0 | h0
      · go_wp2_with fail
        refine (cw_any _ _ _ _).mono ?_
        rintro e' w' ⟨rfl, h⟩
        subst h
        rw [h0]
        go_wp2
        go_round
        case rel => exact ⟨1, by omega, rfl, Lib.hid (by simp [roomK, roomN, h0])⟩
        case measure => simp [intOf]
      · go_wp2_with fail
        refine (cw_any _ _ _ _).mono ?_
        rintro e' w' ⟨rfl, h⟩
        subst h
        rw [h0]
        have E := Lib.hid (show roomN a b c = false by simp [roomN, h0])
        go_wp2
        go_ret
        rw [E.out]
        exact ⟨rfl, HB.out⟩
    · rcases Bool.eq_false_or_eq_true (within b 1 60) with h0 | h0
      · go_wp2_with fail
        refine (cw_any _ _ _ _).mono ?_
        rintro e' w' ⟨rfl, h⟩
        subst h
        rw [h0]
        go_wp2
        go_round
        case rel => exact ⟨2, by omega, rfl, Lib.hid (by rw [← HK.out]; simp [roomK, h0])⟩
        case measure => simp [intOf]
      · go_wp2_with fail
        refine (cw_any _ _ _ _).mono ?_
        rintro e' w' ⟨rfl, h⟩
        subst h
        rw [h0]
        have E := Lib.hid (show roomN a b c = false by rw [← HK.out]; simp [roomK, h0])
        go_wp2
        go_ret
        rw [E.out]
        exact ⟨rfl, HB.out⟩
    · rcases Bool.eq_false_or_eq_true (within c 1 60) with h0 | h0
      · go_wp2_with fail
        refine (cw_any _ _ _ _).mono ?_
        rintro e' w' ⟨rfl, h⟩
        subst h
        rw [h0]
        go_wp2
        go_round
        case rel => exact ⟨3, by omega, rfl, Lib.hid (by rw [← HK.out]; simp [roomK, h0])⟩
        case measure => simp [intOf]
      · go_wp2_with fail
        refine (cw_any _ _ _ _).mono ?_
        rintro e' w' ⟨rfl, h⟩
        subst h
        rw [h0]
        have E := Lib.hid (show roomN a b c = false by rw [← HK.out]; simp [roomK, h0])
        go_wp2
        go_ret
        rw [E.out]
        exact ⟨rfl, HB.out⟩
    · have E := Lib.hid (show roomN a b c = true by rw [← HK.out]; simp [roomK])
      go_wp2
      go_ret
      rw [E.out]
      exact ⟨rfl, HB.out⟩

/-- What Index answers. -/
def IdxIs (l : List Int) (v : Int) (w : World) (e : Ending) (w' : World) : Prop := ∃ r : Int, e = .returned (.int .i64 r) ∧ decide (0 ≤ r) = l.contains v ∧ w = w'
set_option maxRecDepth 100000 in
set_option maxHeartbeats 2000000 in
theorem index_any (l : List Int) (v : Int) (x : Value) (w : World) (hx : LiesAt w x l.length (icells l)) (hl : l.length ≤ 1000000) : Calls Tryz.prog 135 #[x, .int .i64 v] w (IdxIs l v w) := by
  obtain ⟨ao, cap, rfl, hn, hc⟩ := hx
  have HC := Lib.hid hc
  clear hc hn
  go_enter Tryz.func135, Tryz.ntmps135
  go_wp2
  go_loop [8] (fun s => ∃ k : Nat, k ≤ l.length ∧ s = .int .i64 k ∧ Hid (∀ j, j < k → l[j]? ≠ some v)) (fun s => l.length - (intOf s).toNat)
  case atStart => exact ⟨0, Nat.zero_le _, rfl, Lib.hid (fun j hj => by omega)⟩
  case round =>
    obtain ⟨k, hk, rfl, HK⟩ := hrel
    by_cases hlt : k < l.length
    · obtain ⟨b, off, rfl, hcell⟩ := HC.out k _ (icells_get l k hlt)
      have HG : Hid (l[k]? = some l[k]) := Lib.hid (List.getElem?_eq_getElem hlt)
      generalize l[k] = y at hcell HG
      rcases Bool.eq_false_or_eq_true (v == y) with h0 | h0
      · have HE := Lib.hid (show l.contains v = true by
          rw [List.contains_iff_mem]
          have : v = y := by simpa using h0
          rw [this]
          exact List.mem_of_getElem? HG.out)
        go_wp2
        go_ret
        exact ⟨_, rfl, by rw [HE.out]; simp, rfl⟩
      · have HN : Hid (∀ j, j < k + 1 → l[j]? ≠ some v) := Lib.hid (fun j hj => by
          rcases Nat.lt_or_ge j k with h | h
          · exact HK.out j h
          · have : j = k := by omega
            subst this
            rw [HG.out]
            intro e
            have : y = v := by simpa using e
            simp [this] at h0)
        go_wp2
        go_round
        case rel => exact ⟨k + 1, by omega, by go_num, HN⟩
        case measure => simp [intOf]; omega
    · have hkl : k = l.length := by omega
      have HE := Lib.hid (show l.contains v = false by
        rw [← Bool.not_eq_true, List.contains_iff_mem]
        intro hm
        obtain ⟨j, hj, e⟩ := List.mem_iff_getElem.1 hm
        exact HK.out j (by omega) (by rw [List.getElem?_eq_getElem hj, e]))
      clear hkl
      go_wp2
      go_ret
      exact ⟨_, rfl, by rw [HE.out]; simp, rfl⟩
theorem contains_any (l : List Int) (v : Int) (x : Value) (w : World) (hx : LiesAt w x l.length (icells l)) (hl : l.length ≤ 1000000) : Calls Tryz.prog 109 #[x, .int .i64 v] w fun e w' => e = .returned (.bool (l.contains v)) ∧ w = w' := by
  have HX := Lib.hid hx
  obtain ⟨ao, cap, rfl, hn, hc⟩ := hx
  clear hc hn
  go_enter Tryz.func109, Tryz.ntmps109
  go_wp2_with fail
  refine (index_any l v _ w HX.out hl).mono ?_
  rintro e w' ⟨r, rfl, h, rfl⟩
  have HH := Lib.hid h
  clear h
  go_wp2
  go_ret
  rw [HH.out]
  exact ⟨rfl, rfl⟩
end Go.Proofs.YtpocjmlkhophoaaGreatDoor
