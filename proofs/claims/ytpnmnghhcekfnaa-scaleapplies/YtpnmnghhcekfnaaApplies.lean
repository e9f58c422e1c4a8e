/- yardlaw5.ScaleApplies answers true for every point and number; memory that was there stands. -/
import Derived.Test.YtpnmnghhcekfnaaBox
import Derived.Deep.RegionHeld3
namespace Go.Proofs.Ytpnmnghhcekfnaa
open Go.RowKit

set_option maxRecDepth 100000 in
set_option maxHeartbeats 4000000 in
theorem applies_letters (k q l c d n e o r v u : Int) (m : Bool) (w : World) (kr : -9223372036854775808 ≤ r ∧ r ≤ 9223372036854775807) (hm : mayN d n e o = m) (hv : applyN d n e o r = v) (hu : sgn r = u) : Calls Try.prog 3 #[.agg #[.int .i64 k, .int .i64 q, .int .i64 l, .int .i64 c, .int .i64 d, .int .i64 n, .int .i64 e, .int .i64 o], .int .i64 r] w fun e' w' => e' = .returned (.bool true) ∧ Below w.heap.size w w' := by
  have HM := Lib.hid hm
  have HV := Lib.hid hv
  have HU := Lib.hid hu
  clear hm hv hu
  go_enter Try.func3, Try.ntmps3
  go_wp2_with fail
  refine (first_any _).mono ?_
  rintro e' w1 ⟨rfl, h⟩
  have HB1 := Lib.hid h
  have K1 := Lib.hid (pt_box h)
  clear h
  go_wp2_with fail
  generalize hg : w.heap.size = g at K1 ⊢
  go_region_held3 (fun w' => w'.cell? ⟨g, 0, none⟩ = some (.int .i64 k) ∧ w'.cell? ⟨g, 1, none⟩ = some (.int .i64 q) ∧ w'.cell? ⟨g, 2, none⟩ = some (.int .i64 l) ∧ w'.cell? ⟨g, 3, none⟩ = some (.int .i64 c) ∧ w'.cell? ⟨g, 4, none⟩ = some (.int .i64 d) ∧ w'.cell? ⟨g, 5, none⟩ = some (.int .i64 n) ∧ w'.cell? ⟨g, 6, none⟩ = some (.int .i64 e) ∧ w'.cell? ⟨g, 7, none⟩ = some (.int .i64 o))
    (first
      | exact K1.out
      | exact K2.out
      | exact K3.out
      | exact K4.out
      | exact K5.out
      | exact K6.out
      | go_keep)
    (first
      | (go_at_call 12; refine (first_any _).mono ?_; rintro e' w2 ⟨rfl, h⟩; have HB2 := Lib.hid ((below_drewN HB1.out 1).trans (h.mono HB1.out.size)); have K2 := Lib.hid (hg ▸ pt_box HB2.out); clear h; simp only [])
      | (go_at_call 13; refine (may_any k q l c d n e o _).mono ?_; rintro e' w3 ⟨rfl, h⟩; have HB3 := Lib.hid (HB2.out.trans (h.mono HB2.out.size)); have K3 := Lib.hid (hg ▸ pt_box HB3.out); clear h; rw [HM.out]; simp only [])
      | (go_at_call 14; refine (rmay_any k q l c d n e o _).mono ?_; rintro e' w4 ⟨rfl, h⟩; have HB4 := Lib.hid (HB3.out.trans (h.mono HB3.out.size)); have K4 := Lib.hid (hg ▸ pt_box HB4.out); clear h; rw [HM.out]; simp only [])
      | (go_at_call 15; refine (apply_any k q l c d n e o r _ kr).mono ?_; rintro e' w5 ⟨rfl, h⟩; have HB5 := Lib.hid (HB4.out.trans (h.mono HB4.out.size)); have K5 := Lib.hid (hg ▸ pt_box HB5.out); clear h; rw [HV.out]; simp only [])
      | (go_at_call 16; refine (rapply_any k q l c d n e o r _ kr).mono ?_; rintro e' w6 ⟨rfl, h⟩; have HB6 := Lib.hid (HB5.out.trans (h.mono HB5.out.size)); have K6 := Lib.hid (hg ▸ pt_box HB6.out); clear h; rw [HV.out]; simp only [])
      | (go_at_call 17; refine (signed_any r _).mono ?_; rintro e' w7 ⟨rfl, h⟩; subst h; rw [HU.out]; simp only [])
      | (go_at_call 18; refine (rsigned_any r _).mono ?_; rintro e' w7 ⟨rfl, h⟩; subst h; rw [HU.out]; simp only []))
  all_goals
    go_wp2
    go_ret
    exact ⟨rfl, below_of HB6.out⟩
theorem applies_any (k q l c d n e o r : Int) (w : World) (kr : -9223372036854775808 ≤ r ∧ r ≤ 9223372036854775807) : Calls Try.prog 3 #[.agg #[.int .i64 k, .int .i64 q, .int .i64 l, .int .i64 c, .int .i64 d, .int .i64 n, .int .i64 e, .int .i64 o], .int .i64 r] w fun e' w' => e' = .returned (.bool true) ∧ Below w.heap.size w w' := applies_letters k q l c d n e o r _ _ _ w kr rfl rfl rfl
end Go.Proofs.Ytpnmnghhcekfnaa
