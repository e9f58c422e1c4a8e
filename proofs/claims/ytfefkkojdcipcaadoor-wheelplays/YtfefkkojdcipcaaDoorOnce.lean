/- yardlaw4.WheelOnce answers true for every argument, and older memory stands. -/
import Derived.Test.YtfefkkojdcipcaaDoorFirst
namespace Go.Proofs.YtfefkkojdcipcaaDoor
open Go.RowKit Go.Extern.Stop Go.Stop Go.Extern

theorem later_in {t n : Int} (h : t + n ≤ 1099511627776) : laterT t n = t + n := by unfold laterT; omega
theorem set_empty {id after : Int} (h : after ≤ 1099511627776) : setT 0 [] id after = [(id, after)] := by
  unfold setT
  rw [later_in (by omega), Int.zero_add]
  rfl
theorem due_not {t id a : Int} (h : t < a) : dueT t [(id, a)] = [] ∧ restT t [(id, a)] = [(id, a)] := by
  have h2 : ¬ a ≤ t := by omega
  simp [dueT, restT, h2]
theorem due_yes {t id a : Int} (h : a ≤ t) : dueT t [(id, a)] = [(id, a)] ∧ restT t [(id, a)] = [] := by simp [dueT, restT, h]

def Fine (w : World) (e : Ending) (w' : World) : Prop := e = .returned (.bool true) ∧ Below w.heap.size w w'

set_option maxRecDepth 100000 in
set_option maxHeartbeats 8000000 in
theorem once_any (id after other : Int) (cancel : Bool) (w : World) (hg : ErrT w) : Calls Tryd.prog 5 #[.int .i64 id, .int .i64 after, .int .i64 other, .bool cancel] w (Fine w) := by
  have HG := Lib.hid hg
  clear hg
  have HK : Hid (∀ W : World, Below w.heap.size w W → ErrT W) := Lib.hid fun W hb => HG.out.up hb
  by_cases hin : (0 ≤ id ∧ id ≤ 1000) ∧ 1 ≤ after ∧ after ≤ 1099511627776
  · obtain ⟨⟨h0, h1⟩, h2, h3⟩ := hin
    go_enter Tryd.func5, Tryd.ntmps5
    go_wp2_with fail
    refine (first_any _ HG.out).mono ?_
    rintro e wa ⟨rfl, hba⟩
    have BA := Lib.hid hba
    clear hba
    go_wp2_with fail
    refine (new_any _).mono ?_
    rintro e w0 ⟨rfl, hw0⟩
    have H0 : Hid (WhAt w0 wa.heap.size wa.heap.size 0 (.slice none 0 0) []) := Lib.hid (by rw [hw0]; exact whAt_new wa)
    have B0 : Hid (Below wa.heap.size wa w0) := Lib.hid (by rw [hw0]; exact below_new wa _)
    clear hw0
    go_wp2_with fail
    refine (set_ok wa.heap.size wa.heap.size 0 _ [] id after w0 H0.out (by simp) h0 h1 (by omega) h3 (by omega) (by omega) B0.out.size).mono ?_
    rintro e w1 ⟨rfl, ht⟩
    rw [set_empty h3] at ht
    obtain ⟨v1, st⟩ := ht.step H0.out
    have S1 := Lib.hid st
    have B1 : Hid (Below wa.heap.size wa w1) := Lib.hid (B0.out.trans st.below)
    clear ht st
    go_wp2_with fail
    have hw : IntKind.i64.wrap (after - 1) = after - 1 := by rw [IntKind.wrap_i64]; omega
    refine (tick_ok wa.heap.size wa.heap.size 0 _ _ (after - 1) w1 S1.out.wh (by simp) (by omega) (by omega) (by omega) (by omega)).mono ?_
    rintro e w2 ⟨a, rfl, ha, ht⟩
    rw [later_in (by omega), Int.zero_add, (due_not (by omega)).2] at ht
    rw [later_in (by omega), Int.zero_add, (due_not (by omega)).1] at ha
    obtain ⟨v2, st⟩ := ht.step S1.out.wh
    have S2 := Lib.hid st
    have B2 : Hid (Below wa.heap.size wa w2) := Lib.hid (B1.out.trans st.below)
    obtain ⟨aa, ca, rfl⟩ := (show IntsOwn w2 a [] from ha).slice
    clear ht st ha
    go_wp2_with fail
    refine (at_any wa.heap.size wa.heap.size (after - 1) _ _ id w2 S2.out.wh (by simp)).mono ?_
    rintro e w3 ⟨he, hb3⟩
    rw [show atT [(id, after)] id = some after by simp [atT]] at he
    subst he
    have W3 := Lib.hid (S2.out.wh.on hb3)
    have B3 : Hid (Below wa.heap.size wa w3) := Lib.hid (B2.out.trans (hb3.mono B2.out.size))
    clear hb3
    simp only [Option.getD_some, Option.isSome_some]
    cases cancel
    · go_wp2_with fail
      refine (tick_ok wa.heap.size wa.heap.size (after - 1) _ _ 1 w3 W3.out (by simp) (by omega) (by omega) (by omega) (by omega)).mono ?_
      rintro e w4 ⟨b, rfl, hb, ht⟩
      rw [later_in (by omega), show after - 1 + 1 = after by omega, (due_yes (Int.le_refl _)).2] at ht
      rw [later_in (by omega), show after - 1 + 1 = after by omega, (due_yes (Int.le_refl _)).1] at hb
      obtain ⟨v4, st⟩ := ht.step W3.out
      have S4 := Lib.hid st
      have B4 : Hid (Below wa.heap.size wa w4) := Lib.hid (B3.out.trans st.below)
      have A4 : Hid (IntsOwn w4 b [id]) := Lib.hid hb
      clear ht st hb
      go_wp2_with fail
      all_goals
        refine (tick_ok wa.heap.size wa.heap.size after _ _ _ w4 S4.out.wh (by simp) (by omega) (by omega) (by omega) (by omega)).mono ?_
        rintro e w5 ⟨c, rfl, hc, ht⟩
        obtain ⟨v5, st⟩ := ht.step S4.out.wh
        have S5 : Hid (StepTo w4 wa.heap.size wa.heap.size v4 _ [] w5 v5) := Lib.hid st
        have B5 : Hid (Below wa.heap.size wa w5) := Lib.hid (B4.out.trans st.below)
        have A5 : Hid (IntsOwn w5 b [id]) := Lib.hid (st.ints _ _ A4.out)
        obtain ⟨ac, cc, rfl⟩ := (show IntsOwn w5 c [] from hc).slice
        obtain ⟨ab, cb, rfl⟩ := A5.out.slice
        clear ht st hc
        have N5 : Hid (Below w5.heap.size w5 (w5.alloc (.cells #[.int .i64 id] 3))) := Lib.hid (below_new _ _)
        have L5 := Lib.hid (lit_ints1 w5 id)
        go_wp2_with fail
        generalize w5.alloc (.cells #[.int .i64 id] 3) = w6 at *
        have B6 : Hid (Below w.heap.size w w6) := Lib.hid (BA.out.trans ((B5.out.trans (N5.out.mono B5.out.size)).mono BA.out.size))
        refine (first_any _ (HK.out _ B6.out)).mono ?_
        rintro e w7 ⟨rfl, hb7⟩
        have D7 := Lib.hid hb7
        have B7 : Hid (Below w.heap.size w w7) := Lib.hid (B6.out.trans (hb7.mono B6.out.size))
        clear hb7
        go_wp2_with fail
        refine (ints_any _ _ [id] [id] _ ((A5.out.at.on N5.out).on D7.out) (L5.out.on D7.out) (by simp)).mono ?_
        rintro e w8 ⟨rfl, hb8⟩
        have W8 := Lib.hid (((S5.out.wh.on N5.out).on D7.out).on hb8)
        have B8 : Hid (Below w.heap.size w w8) := Lib.hid (B7.out.trans (hb8.mono B7.out.size))
        clear hb8
        rw [show ([id] == [id]) = true by simp]
        go_wp2_with fail
        refine (cancel_any wa.heap.size wa.heap.size _ _ [] id w8 W8.out (by simp)).mono ?_
        rintro e w9 ⟨he, ht⟩
        subst he
        have B9 : Hid (Below w.heap.size w w9) := Lib.hid (B8.out.trans ((Turned.below W8.out (Nat.le_trans W8.out.base (Nat.le_of_lt W8.out.lt)) ht).mono BA.out.size))
        clear ht
        rw [show (atT [] id).isSome = false from rfl]
        go_wp2
        go_ret
        exact ⟨rfl, B9.out⟩
    · go_wp2_with fail
      refine (cancel_any wa.heap.size wa.heap.size _ _ _ id w3 W3.out (by simp)).mono ?_
      rintro e w3' ⟨he, ht⟩
      subst he
      rw [show eraseT [(id, after)] id = [] by simp [eraseT]] at ht
      obtain ⟨v3', st⟩ := ht.step W3.out
      have S3' := Lib.hid st
      have B3' : Hid (Below wa.heap.size wa w3') := Lib.hid (B3.out.trans st.below)
      clear ht st
      rw [show (atT [(id, after)] id).isSome = true by simp [atT]]
      go_wp2_with fail
      refine (tick_ok wa.heap.size wa.heap.size (after - 1) _ _ 1 w3' S3'.out.wh (by simp) (by omega) (by omega) (by omega) (by omega)).mono ?_
      rintro e w4 ⟨b, rfl, hb, ht⟩
      rw [later_in (by omega), show after - 1 + 1 = after by omega] at ht
      obtain ⟨v4, st⟩ := ht.step S3'.out.wh
      have S4 : Hid (StepTo w3' wa.heap.size wa.heap.size v3' after [] w4 v4) := Lib.hid st
      have B4 : Hid (Below wa.heap.size wa w4) := Lib.hid (B3'.out.trans st.below)
      have A4 : Hid (IntsOwn w4 b []) := Lib.hid hb
      clear ht st hb
      go_wp2_with fail
      all_goals
        refine (tick_ok wa.heap.size wa.heap.size after _ _ _ w4 S4.out.wh (by simp) (by omega) (by omega) (by omega) (by omega)).mono ?_
        rintro e w5 ⟨c, rfl, hc, ht⟩
        obtain ⟨v5, st⟩ := ht.step S4.out.wh
        have S5 : Hid (StepTo w4 wa.heap.size wa.heap.size v4 _ [] w5 v5) := Lib.hid st
        have B5 : Hid (Below wa.heap.size wa w5) := Lib.hid (B4.out.trans st.below)
        have A5 : Hid (IntsOwn w5 b []) := Lib.hid (st.ints _ _ A4.out)
        obtain ⟨ac, cc, rfl⟩ := (show IntsOwn w5 c [] from hc).slice
        obtain ⟨ab, cb, rfl⟩ := A5.out.slice
        clear ht st hc
        have N5 : Hid (Below w5.heap.size w5 (w5.alloc (.cells #[.int .i64 id] 3))) := Lib.hid (below_new _ _)
        go_wp2_with fail
        generalize w5.alloc (.cells #[.int .i64 id] 3) = w6 at *
        have B6 : Hid (Below w.heap.size w w6) := Lib.hid (BA.out.trans ((B5.out.trans (N5.out.mono B5.out.size)).mono BA.out.size))
        refine (first_any _ (HK.out _ B6.out)).mono ?_
        rintro e w7 ⟨rfl, hb7⟩
        have D7 := Lib.hid hb7
        have B7 : Hid (Below w.heap.size w w7) := Lib.hid (B6.out.trans (hb7.mono B6.out.size))
        clear hb7
        go_wp2_with fail
        refine (ints_any _ _ [] [] _ ((A5.out.at.on N5.out).on D7.out) ⟨none, 0, rfl, fun i hi => by simp at hi⟩ (by simp)).mono ?_
        rintro e w8 ⟨rfl, hb8⟩
        have W8 := Lib.hid (((S5.out.wh.on N5.out).on D7.out).on hb8)
        have B8 : Hid (Below w.heap.size w w8) := Lib.hid (B7.out.trans (hb8.mono B7.out.size))
        clear hb8
        rw [show (([] : List Int) == []) = true from rfl]
        go_wp2_with fail
        refine (cancel_any wa.heap.size wa.heap.size _ _ [] id w8 W8.out (by simp)).mono ?_
        rintro e w9 ⟨he, ht⟩
        subst he
        have B9 : Hid (Below w.heap.size w w9) := Lib.hid (B8.out.trans ((Turned.below W8.out (Nat.le_trans W8.out.base (Nat.le_of_lt W8.out.lt)) ht).mono BA.out.size))
        clear ht
        rw [show (atT [] id).isSome = false from rfl]
        go_wp2
        go_ret
        exact ⟨rfl, B9.out⟩
  · go_enter Tryd.func5, Tryd.ntmps5
    go_wp2_with fail
    refine (first_any _ HG.out).mono ?_
    rintro e wa ⟨rfl, hba⟩
    have BA := Lib.hid hba
    clear hba
    go_wp2_with fail
    refine (new_any _).mono ?_
    rintro e w0 ⟨rfl, hw0⟩
    have B0 : Hid (Below w.heap.size w w0) := Lib.hid (by rw [hw0]; exact BA.out.alloc BA.out.size _)
    clear hw0
    go_wp2_with fail
    all_goals first
      | (exfalso; omega)
      | (refine (first_any _ (HK.out _ B0.out)).mono ?_
         rintro e w1 ⟨rfl, hb1⟩
         have B1 : Hid (Below w.heap.size w w1) := Lib.hid (B0.out.trans (hb1.mono B0.out.size))
         clear hb1
         go_wp2
         go_ret
         exact ⟨rfl, B1.out⟩)
end Go.Proofs.YtfefkkojdcipcaaDoor
