/- yardlaw4.same: a Wheel and the document's Wheel with the same clock and timers stand alike. -/
import Derived.Test.YtfefkkojdcipcaaDoorRlist
import Derived.Deep.RegionHeld3
namespace Go.Proofs.YtfefkkojdcipcaaDoor
open Go.RowKit Go.Extern.Stop Go.Stop Go.Extern

set_option maxRecDepth 100000 in
set_option maxHeartbeats 8000000 in
theorem alike_any (B p B2 q : Nat) (now : Int) (v v2 : Value) (ts : List (Int × Int)) (id : Int) (w : World) (h : WhAt w B p now v ts) (h2 : RwAt w B2 q now v2 ts) (hg : Good ts) (hl : ts.length ≤ 900) :
    Calls Tryd.prog 20 #[.pointer (some ⟨p, 0, none⟩), .pointer (some ⟨q, 0, none⟩), .int .i64 id] w fun e w' => e = .returned (.bool true) ∧ Below w.heap.size w w' := by
  have H := Lib.hid h
  have H2 := Lib.hid h2
  have HG := Lib.hid hg
  have HL := Lib.hid hl
  clear h h2 hg hl
  go_enter Tryd.func20, Tryd.ntmps20
  go_wp2_with fail
  refine (at_any B p now v ts id w H.out (by have := HL.out; omega)).mono ?_
  rintro e w1 ⟨rfl, hb1⟩
  have B1 := Lib.hid hb1
  clear hb1
  go_wp2_with fail
  refine (rat_any B2 q now v2 ts id w1 (H2.out.on B1.out) (by have := HL.out; omega)).mono ?_
  rintro e w2 ⟨rfl, rfl⟩
  go_wp2_with fail
  refine (next_any B p now v ts w1 (H.out.on B1.out)).mono ?_
  rintro e w2 ⟨rfl, rfl⟩
  go_wp2_with fail
  refine (rnext_any B2 q now v2 ts w1 (H2.out.on B1.out)).mono ?_
  rintro e w2 ⟨rfl, rfl⟩
  generalize (atT ts id).getD 0 = a
  generalize (atT ts id).isSome = ao
  generalize (ts.head?.map (·.2)).getD 0 = n
  generalize ts.head?.isSome = no
  have ha : (a == a) = true := by simp
  have hao : (ao == ao) = true := by simp
  have hn : (n == n) = true := by simp
  have hno : (no == no) = true := by simp
  have hnow : (now == now) = true := by simp
  have c0 := (H2.out.on B1.out).c0
  have HW1 := Lib.hid (H.out.on B1.out)
  have HR1 := Lib.hid (H2.out.on B1.out)
  have BD : Hid (Below w1.heap.size w1 w1.drew) := Lib.hid (Below.refl _ _).drew
  go_wp2_with fail
  go_region_held3 (fun w' => w'.cell? ⟨q, 0, none⟩ = some (.int .i64 now))
    (first
      | exact c0
      | exact k6
      | exact k5
      | exact k4
      | go_keep)
    (first
    | (go_at_call 21; refine (now_any B p now v ts _ (HW1.out.on BD.out)).mono ?_; rintro e w3 ⟨rfl, hw3⟩; subst hw3; simp only [])
    | (go_at_call 23; refine (list_any B p now v ts _ (HW1.out.on BD.out) (by have := HL.out; omega)).mono ?_; rintro e w4 ⟨xl, rfl, hxl, hb4⟩; have B4 : Hid (Below w1.heap.size w1 w4) := Lib.hid (BD.out.trans hb4); have XL := Lib.hid hxl; have k4 := (HR1.out.on B4.out).c0; clear hxl hb4; simp only [])
    | (go_at_call 42; refine (rlist_any B2 q now v2 ts _ (HR1.out.on B4.out) HG.out (by have := HL.out; omega)).mono ?_; rintro e w5 ⟨xm, rfl, hxm, hb5⟩; have B5 : Hid (Below w1.heap.size w1 w5) := Lib.hid (B4.out.trans (hb5.mono B4.out.size)); have XL5 := Lib.hid (XL.out.on hb5); have XM := Lib.hid hxm; have k5 := (HR1.out.on B5.out).c0; clear hxm hb5; simp only [])
    | (go_at_call 18; refine (ints_any _ _ _ _ _ XL5.out.at XM.out.at (by rw [sortI_length, List.length_map]; have := HL.out; omega)).mono ?_; rintro e w6 ⟨he, hb6⟩; rw [show (sortI (ts.map (·.1)) == sortI (ts.map (·.1))) = true by simp] at he; subst he; have B6 : Hid (Below w1.heap.size w1 w6) := Lib.hid (B5.out.trans (hb6.mono B5.out.size)); have k6 := (HR1.out.on B6.out).c0; clear hb6; simp only []))
  all_goals
    clear c0 k4 k5 k6
    go_wp2
    go_ret
    exact ⟨rfl, B1.out.trans (B6.out.mono B1.out.size)⟩
end Go.Proofs.YtfefkkojdcipcaaDoor
