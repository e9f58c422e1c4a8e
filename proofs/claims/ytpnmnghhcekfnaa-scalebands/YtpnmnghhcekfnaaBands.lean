/- yardlaw5.ScaleBands answers true for every four numbers; memory that was there stands. -/
import Derived.Test.YtpnmnghhcekfnaaFirst
namespace Go.Proofs.Ytpnmnghhcekfnaa
open Go.RowKit

theorem far_comm (a b : Int) : far a b = far b a := by unfold far; omega
theorem beyond_comm (a b d : Int) : beyondN b a d = beyondN a b d := by rw [beyondN, beyondN, far_comm]
theorem beyond_self (a d : Int) : beyondN a a d = false := by unfold beyondN far; simp; omega
theorem beyond_less {a b d l : Int} (h : beyondN a b d = true) (hl : l ≤ d) : beyondN a b l = true := by
  simp [beyondN] at h ⊢
  omega
theorem beyond_ne {a b d : Int} (h : beyondN a b d = true) : ¬ a = b := by rintro rfl; rw [beyond_self] at h; cases h
theorem beyond_eq {a b d : Int} (h : beyondN a b d = false) (hd : ¬ 0 < d) : a = b := by
  have h' := of_decide_eq_false h
  unfold far at h'
  split at h' <;> omega
set_option maxHeartbeats 4000000 in
theorem bands_any (a b d l : Int) (w : World) (ka : -9223372036854775808 ≤ a ∧ a ≤ 9223372036854775807) (kb : -9223372036854775808 ≤ b ∧ b ≤ 9223372036854775807) (kd : -9223372036854775808 ≤ d ∧ d ≤ 9223372036854775807) (kl : -9223372036854775808 ≤ l ∧ l ≤ 9223372036854775807) : Calls Try.prog 7 #[.int .i64 a, .int .i64 b, .int .i64 d, .int .i64 l] w fun e w' => e = .returned (.bool true) ∧ Below w.heap.size w w' := by
  rcases Bool.eq_false_or_eq_true (beyondN a b d) with hX | hX
  · by_cases hl : l ≤ d
    · by_cases hd : 0 < d
      · have hne : (a != b) = true := bne_iff_ne.2 (beyond_ne hX)
        have HL := Lib.hid (beyond_less hX hl)
        have HX := Lib.hid hX
        clear hX
        go_enter Try.func7, Try.ntmps7
        go_wp2_with fail
        refine (first_any w).mono ?_
        rintro e w1 ⟨rfl, h⟩
        have HB1 := Lib.hid h
        clear h
        go_wp2_with fail
        refine (beyond_any a b d _ ka kb kd).mono ?_
        rintro e w2 ⟨rfl, rfl⟩
        rw [HX.out]
        go_wp2_with fail
        refine (beyond_any b a d _ kb ka kd).mono ?_
        rintro e w2 ⟨rfl, rfl⟩
        rw [beyond_comm, HX.out]
        go_wp2_with fail
        refine (beyond_any a a d _ ka ka kd).mono ?_
        rintro e w2 ⟨rfl, rfl⟩
        rw [beyond_self]
        go_wp2_with fail
        refine (beyond_any a b l _ ka kb kl).mono ?_
        rintro e w2 ⟨rfl, rfl⟩
        rw [HL.out]
        go_wp2_with fail
        refine (first_any _).mono ?_
        rintro e w2 ⟨rfl, h⟩
        have HB2 := Lib.hid (HB1.out.trans (h.mono HB1.out.size))
        clear h
        go_wp2
        go_ret
        exact ⟨rfl, HB2.out⟩
      · have hne : (a != b) = true := bne_iff_ne.2 (beyond_ne hX)
        have HL := Lib.hid (beyond_less hX hl)
        have HX := Lib.hid hX
        clear hX
        go_enter Try.func7, Try.ntmps7
        go_wp2_with fail
        refine (first_any w).mono ?_
        rintro e w1 ⟨rfl, h⟩
        have HB1 := Lib.hid h
        clear h
        go_wp2_with fail
        refine (beyond_any a b d _ ka kb kd).mono ?_
        rintro e w2 ⟨rfl, rfl⟩
        rw [HX.out]
        go_wp2_with fail
        refine (beyond_any b a d _ kb ka kd).mono ?_
        rintro e w2 ⟨rfl, rfl⟩
        rw [beyond_comm, HX.out]
        go_wp2_with fail
        refine (beyond_any a a d _ ka ka kd).mono ?_
        rintro e w2 ⟨rfl, rfl⟩
        rw [beyond_self]
        go_wp2_with fail
        refine (beyond_any a b l _ ka kb kl).mono ?_
        rintro e w2 ⟨rfl, rfl⟩
        rw [HL.out]
        go_wp2_with fail
        refine (first_any _).mono ?_
        rintro e w2 ⟨rfl, h⟩
        have HB2 := Lib.hid (HB1.out.trans (h.mono HB1.out.size))
        clear h
        go_wp2
        go_ret
        exact ⟨rfl, HB2.out⟩
    · by_cases hd : 0 < d
      · have hne : (a != b) = true := bne_iff_ne.2 (beyond_ne hX)
        have HX := Lib.hid hX
        clear hX
        go_enter Try.func7, Try.ntmps7
        go_wp2_with fail
        refine (first_any w).mono ?_
        rintro e w1 ⟨rfl, h⟩
        have HB1 := Lib.hid h
        clear h
        go_wp2_with fail
        refine (beyond_any a b d _ ka kb kd).mono ?_
        rintro e w2 ⟨rfl, rfl⟩
        rw [HX.out]
        go_wp2_with fail
        refine (beyond_any b a d _ kb ka kd).mono ?_
        rintro e w2 ⟨rfl, rfl⟩
        rw [beyond_comm, HX.out]
        go_wp2_with fail
        refine (beyond_any a a d _ ka ka kd).mono ?_
        rintro e w2 ⟨rfl, rfl⟩
        rw [beyond_self]
        go_wp2_with fail
        refine (first_any _).mono ?_
        rintro e w2 ⟨rfl, h⟩
        have HB2 := Lib.hid (HB1.out.trans (h.mono HB1.out.size))
        clear h
        go_wp2
        go_ret
        exact ⟨rfl, HB2.out⟩
      · have hne : (a != b) = true := bne_iff_ne.2 (beyond_ne hX)
        have HX := Lib.hid hX
        clear hX
        go_enter Try.func7, Try.ntmps7
        go_wp2_with fail
        refine (first_any w).mono ?_
        rintro e w1 ⟨rfl, h⟩
        have HB1 := Lib.hid h
        clear h
        go_wp2_with fail
        refine (beyond_any a b d _ ka kb kd).mono ?_
        rintro e w2 ⟨rfl, rfl⟩
        rw [HX.out]
        go_wp2_with fail
        refine (beyond_any b a d _ kb ka kd).mono ?_
        rintro e w2 ⟨rfl, rfl⟩
        rw [beyond_comm, HX.out]
        go_wp2_with fail
        refine (beyond_any a a d _ ka ka kd).mono ?_
        rintro e w2 ⟨rfl, rfl⟩
        rw [beyond_self]
        go_wp2_with fail
        refine (first_any _).mono ?_
        rintro e w2 ⟨rfl, h⟩
        have HB2 := Lib.hid (HB1.out.trans (h.mono HB1.out.size))
        clear h
        go_wp2
        go_ret
        exact ⟨rfl, HB2.out⟩
  · by_cases hl : l ≤ d
    · by_cases hd : 0 < d
      · have HX := Lib.hid hX
        clear hX
        go_enter Try.func7, Try.ntmps7
        go_wp2_with fail
        refine (first_any w).mono ?_
        rintro e w1 ⟨rfl, h⟩
        have HB1 := Lib.hid h
        clear h
        go_wp2_with fail
        refine (beyond_any a b d _ ka kb kd).mono ?_
        rintro e w2 ⟨rfl, rfl⟩
        rw [HX.out]
        go_wp2_with fail
        refine (beyond_any b a d _ kb ka kd).mono ?_
        rintro e w2 ⟨rfl, rfl⟩
        rw [beyond_comm, HX.out]
        go_wp2_with fail
        refine (beyond_any a a d _ ka ka kd).mono ?_
        rintro e w2 ⟨rfl, rfl⟩
        rw [beyond_self]
        go_wp2_with fail
        refine (first_any _).mono ?_
        rintro e w2 ⟨rfl, h⟩
        have HB2 := Lib.hid (HB1.out.trans (h.mono HB1.out.size))
        clear h
        go_wp2
        go_ret
        exact ⟨rfl, HB2.out⟩
      · have hab := beyond_eq hX hd
        subst hab
        have HX := Lib.hid hX
        clear hX
        go_enter Try.func7, Try.ntmps7
        go_wp2_with fail
        refine (first_any w).mono ?_
        rintro e w1 ⟨rfl, h⟩
        have HB1 := Lib.hid h
        clear h
        go_wp2_with fail
        refine (beyond_any a a d _ ka ka kd).mono ?_
        rintro e w2 ⟨rfl, rfl⟩
        rw [HX.out]
        go_wp2_with fail
        refine (beyond_any a a d _ ka ka kd).mono ?_
        rintro e w2 ⟨rfl, rfl⟩
        rw [beyond_comm, HX.out]
        go_wp2_with fail
        refine (beyond_any a a d _ ka ka kd).mono ?_
        rintro e w2 ⟨rfl, rfl⟩
        rw [beyond_self]
        go_wp2_with fail
        refine (first_any _).mono ?_
        rintro e w2 ⟨rfl, h⟩
        have HB2 := Lib.hid (HB1.out.trans (h.mono HB1.out.size))
        clear h
        go_wp2
        go_ret
        exact ⟨rfl, HB2.out⟩
    · by_cases hd : 0 < d
      · have HX := Lib.hid hX
        clear hX
        go_enter Try.func7, Try.ntmps7
        go_wp2_with fail
        refine (first_any w).mono ?_
        rintro e w1 ⟨rfl, h⟩
        have HB1 := Lib.hid h
        clear h
        go_wp2_with fail
        refine (beyond_any a b d _ ka kb kd).mono ?_
        rintro e w2 ⟨rfl, rfl⟩
        rw [HX.out]
        go_wp2_with fail
        refine (beyond_any b a d _ kb ka kd).mono ?_
        rintro e w2 ⟨rfl, rfl⟩
        rw [beyond_comm, HX.out]
        go_wp2_with fail
        refine (beyond_any a a d _ ka ka kd).mono ?_
        rintro e w2 ⟨rfl, rfl⟩
        rw [beyond_self]
        go_wp2_with fail
        refine (first_any _).mono ?_
        rintro e w2 ⟨rfl, h⟩
        have HB2 := Lib.hid (HB1.out.trans (h.mono HB1.out.size))
        clear h
        go_wp2
        go_ret
        exact ⟨rfl, HB2.out⟩
      · have hab := beyond_eq hX hd
        subst hab
        have HX := Lib.hid hX
        clear hX
        go_enter Try.func7, Try.ntmps7
        go_wp2_with fail
        refine (first_any w).mono ?_
        rintro e w1 ⟨rfl, h⟩
        have HB1 := Lib.hid h
        clear h
        go_wp2_with fail
        refine (beyond_any a a d _ ka ka kd).mono ?_
        rintro e w2 ⟨rfl, rfl⟩
        rw [HX.out]
        go_wp2_with fail
        refine (beyond_any a a d _ ka ka kd).mono ?_
        rintro e w2 ⟨rfl, rfl⟩
        rw [beyond_comm, HX.out]
        go_wp2_with fail
        refine (beyond_any a a d _ ka ka kd).mono ?_
        rintro e w2 ⟨rfl, rfl⟩
        rw [beyond_self]
        go_wp2_with fail
        refine (first_any _).mono ?_
        rintro e w2 ⟨rfl, h⟩
        have HB2 := Lib.hid (HB1.out.trans (h.mono HB1.out.size))
        clear h
        go_wp2
        go_ret
        exact ⟨rfl, HB2.out⟩
end Go.Proofs.Ytpnmnghhcekfnaa
