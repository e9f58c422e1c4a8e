/- wheel's inner loops that only read: find, before, countBefore, countDue; At and Next. -/
import Derived.Test.YtfefkkojdcipcaaDoorMem
import Derived.Deep.LoopGhost
import Derived.IntWalk
import Derived.Deep.RegionHeld3
import Derived.Deep.RegionWith
namespace Go.Proofs.YtfefkkojdcipcaaDoor
open Go.RowKit Go.Extern.Stop Go.Stop Go.Extern

theorem below_drewN' {B : Nat} {a w : World} (h : Below B a w) (n : Nat) : Below B a (w.drewN n) := ⟨h.os, h.tape, h.output, h.size, h.block⟩
theorem next_int (i : Nat) (h : i < 1000000) : Value.int .i64 (wrap64 ((i : Int) + 1)) = .int .i64 ((i + 1 : Nat) : Int) := by
  congr 1
  unfold wrap64
  omega
/-- The place of the first timer id, or -1. -/
def findFrom : List (Int × Int) → Int → Nat → Int
  | [], _, _ => -1
  | t :: l, id, k => if t.1 = id then (k : Int) else findFrom l id (k + 1)
/-- The time of the first timer id. -/
def atT : List (Int × Int) → Int → Option Int
  | [], _ => none
  | t :: l, id => if t.1 = id then some t.2 else atT l id
/-- Without the first timer id. -/
def eraseT : List (Int × Int) → Int → List (Int × Int)
  | [], _ => []
  | t :: l, id => if t.1 = id then l else t :: eraseT l id
theorem find_cases : ∀ (l : List (Int × Int)) (id : Int) (k : Nat), (findFrom l id k = -1 ∧ atT l id = none ∧ eraseT l id = l) ∨
    ∃ j, ∃ h : j < l.length, findFrom l id k = ((k + j : Nat) : Int) ∧ atT l id = some l[j].2 ∧ eraseT l id = l.take j ++ l.drop (j + 1)
  | [], _, _ => .inl ⟨rfl, rfl, rfl⟩
  | t :: l, id, k => by
    by_cases h : t.1 = id
    · exact .inr ⟨0, by simp, by simp [findFrom, h], by simp [atT, h], by simp [eraseT, h]⟩
    · rcases find_cases l id (k + 1) with ⟨h1, h2, h3⟩ | ⟨j, hj, h1, h2, h3⟩
      · exact .inl ⟨by simp [findFrom, h, h1], by simp [atT, h, h2], by simp [eraseT, h, h3]⟩
      · exact .inr ⟨j + 1, by simpa using hj, by simp only [findFrom, h, if_false, h1]; omega, by simp [atT, h, h2], by simp [eraseT, h, h3]⟩

set_option maxRecDepth 100000 in
set_option maxHeartbeats 4000000 in
theorem find_any (B p : Nat) (now : Int) (v : Value) (ts : List (Int × Int)) (id : Int) (w : World) (h : WhAt w B p now v ts) (hl : ts.length ≤ 100000) :
    Calls Tryd.prog 35 #[.pointer (some ⟨p, 0, none⟩), .int .i64 id] w fun e w' => e = .returned (.int .i64 (findFrom ts id 0)) ∧ Below w.heap.size w w' := by
  have c1 := h.c1
  have H := Lib.hid h
  obtain ⟨ao, cap, rfl, hc, hm, hcs⟩ := h.form
  have HL := Lib.hid hl
  clear h hc hm hl hcs
  go_enter Tryd.func35, Tryd.ntmps35
  go_wp2
  go_loopg [12] ts.length (fun k s12 wr => ∃ i : Nat, i ≤ ts.length ∧ k = ts.length - i ∧ s12 = .int .i64 i ∧ Hid (Below w.heap.size w wr ∧ findFrom (ts.drop i) id i = findFrom ts id 0))
  case atStart => exact ⟨0, Nat.zero_le _, rfl, rfl, Lib.hid ⟨Below.refl _ _, rfl⟩⟩
  case round =>
    obtain ⟨i, hi, rfl, rfl, hbr⟩ := hrel
    by_cases hlt : i < ts.length
    · obtain ⟨ao', cap', he, _, _, hcell⟩ := (H.out.on hbr.out.1).form
      obtain ⟨g, hg, p0, p1⟩ := hcell i hlt
      simp only [Value.slice.injEq] at he
      obtain ⟨rfl, _, rfl⟩ := he
      subst hg
      have hi0 : (0 : Int) ≤ (i : Int) := by omega
      have hil : (i : Int) < (ts.length : Int) := by omega
      have hd : ts.drop i = ts[i] :: ts.drop (i + 1) := List.drop_eq_getElem_cons hlt
      have HD := Lib.hid hd
      clear hd hcell
      generalize ts[i] = t at *
      obtain ⟨t1, t2⟩ := t
      have hb2 : Below w.heap.size w (wr.alloc (.cells #[.int .i64 t1, .int .i64 t2] 70)) := hbr.out.1.alloc hbr.out.1.size _
      have HB2 := Lib.hid hb2
      clear hb2
      by_cases hq : t1 = id
      · have hq' : (t1 == id) = true := by simpa using hq
        have HQ := Lib.hid hq
        clear hq
        go_wp2
        go_ret
        refine ⟨?_, HB2.out⟩
        have := hbr.out.2
        rw [HD.out, findFrom, if_pos HQ.out] at this
        rw [← this]; rfl
      · have hq' : (t1 == id) = false := by simpa using hq
        have HQ := Lib.hid hq
        clear hq
        go_wp2
        go_roundg (ts.length - (i + 1))
        case measure => omega
        case rel =>
          have := hbr.out.2
          rw [HD.out, findFrom, if_neg HQ.out] at this
          exact ⟨i + 1, by omega, rfl, next_int i (by have := HL.out; omega), Lib.hid ⟨HB2.out, this⟩⟩
    · have hil : (ts.length : Int) ≤ (i : Int) := by omega
      go_wp2
      go_ret
      refine ⟨?_, hbr.out.1⟩
      have := hbr.out.2
      rw [List.drop_eq_nil_of_le (by omega), findFrom] at this
      rw [← this]; rfl

/-- Is one timer told ahead of another? -/
def beforeT (a b : Int × Int) : Bool := decide (a.2 < b.2) || (decide (a.2 = b.2) && decide (a.1 < b.1))
theorem before_any (a1 a2 b1 b2 : Int) (w : World) :
    Calls Tryd.prog 51 #[.agg #[.int .i64 a1, .int .i64 a2], .agg #[.int .i64 b1, .int .i64 b2]] w fun e w' => e = .returned (.bool (beforeT (a1, a2) (b1, b2))) ∧ Below w.heap.size w w' := by
  have hb2 : Below w.heap.size w ((w.alloc (.cells #[.int .i64 a1, .int .i64 a2] 70)).alloc (.cells #[.int .i64 b1, .int .i64 b2] 70)) := ((Below.refl _ _).alloc (Nat.le_refl _) _).alloc (by simp) _
  have HB2 := Lib.hid hb2
  clear hb2
  by_cases h1 : a2 < b2
  · have HE : Hid (beforeT (a1, a2) (b1, b2) = true) := Lib.hid (by simp [beforeT, h1])
    generalize beforeT (a1, a2) (b1, b2) = q at *
    go_enter Tryd.func51, Tryd.ntmps51
    go_wp2
    go_ret
    exact ⟨by rw [HE.out]; rfl, HB2.out⟩
  · by_cases h2 : a2 = b2
    · by_cases h3 : a1 < b1
      · have HE : Hid (beforeT (a1, a2) (b1, b2) = true) := Lib.hid (by simp [beforeT, h2, h3])
        have h4 : (a2 == b2) = true := by simpa using h2
        clear h2
        generalize beforeT (a1, a2) (b1, b2) = q at *
        go_enter Tryd.func51, Tryd.ntmps51
        go_wp2
        go_ret
        exact ⟨by rw [HE.out]; rfl, HB2.out⟩
      · have HE : Hid (beforeT (a1, a2) (b1, b2) = false) := Lib.hid (by simp [beforeT, h2]; omega)
        have h4 : (a2 == b2) = true := by simpa using h2
        clear h2
        generalize beforeT (a1, a2) (b1, b2) = q at *
        go_enter Tryd.func51, Tryd.ntmps51
        go_wp2
        go_ret
        exact ⟨by rw [HE.out]; rfl, HB2.out⟩
    · have HE : Hid (beforeT (a1, a2) (b1, b2) = false) := Lib.hid (by simp [beforeT, h2]; omega)
      have h4 : (a2 == b2) = false := by simpa using h2
      clear h2
      generalize beforeT (a1, a2) (b1, b2) = q at *
      go_enter Tryd.func51, Tryd.ntmps51
      go_wp2
      go_ret
      exact ⟨by rw [HE.out]; rfl, HB2.out⟩
theorem before_is (a1 a2 b1 b2 : Int) (q : Bool) (hq : beforeT (a1, a2) (b1, b2) = q) (w : World) :
    Calls Tryd.prog 51 #[.agg #[.int .i64 a1, .int .i64 a2], .agg #[.int .i64 b1, .int .i64 b2]] w fun e w' => e = .returned (.bool q) ∧ Below w.heap.size w w' := hq ▸ before_any a1 a2 b1 b2 w
/-- How many there are till the first that is not so. -/
def cnt (P : Int × Int → Bool) (l : List (Int × Int)) : Nat := (l.takeWhile P).length
theorem cnt_le (P : Int × Int → Bool) (l : List (Int × Int)) : cnt P l ≤ l.length := (List.takeWhile_sublist P).length_le
theorem cnt_take (P : Int × Int → Bool) (l : List (Int × Int)) : l.take (cnt P l) = l.takeWhile P := by
  conv => lhs; arg 2; rw [← List.takeWhile_append_dropWhile (p := P) (l := l)]
  rw [cnt, List.take_left]
theorem cnt_drop (P : Int × Int → Bool) (l : List (Int × Int)) : l.drop (cnt P l) = l.dropWhile P := by
  conv => lhs; arg 2; rw [← List.takeWhile_append_dropWhile (p := P) (l := l)]
  rw [cnt, List.drop_left]

set_option maxRecDepth 100000 in
set_option maxHeartbeats 4000000 in
theorem countBefore_any (B p : Nat) (now : Int) (v : Value) (ts : List (Int × Int)) (x1 x2 : Int) (w : World) (h : WhAt w B p now v ts) (hl : ts.length ≤ 100000) :
    Calls Tryd.prog 32 #[.pointer (some ⟨p, 0, none⟩), .agg #[.int .i64 x1, .int .i64 x2]] w fun e w' => e = .returned (.int .i64 (cnt (fun t => beforeT t (x1, x2)) ts : Nat)) ∧ Below w.heap.size w w' := by
  have H := Lib.hid h
  obtain ⟨ao, cap, rfl, hc, hm, hcs⟩ := h.form
  have HL := Lib.hid hl
  have hb0 : Below w.heap.size w (w.alloc (.cells #[.int .i64 x1, .int .i64 x2] 70)) := (Below.refl _ _).alloc (Nat.le_refl _) _
  have HB0 := Lib.hid hb0
  have HX : Hid ((w.alloc (.cells #[.int .i64 x1, .int .i64 x2] 70)).heap[w.heap.size]? = some (.cells #[.int .i64 x1, .int .i64 x2] 70 (0, 0)) ∧ w.heap.size < (w.alloc (.cells #[.int .i64 x1, .int .i64 x2] 70)).heap.size) := Lib.hid ⟨heap_alloc_new w _, by simp⟩
  clear h hc hm hl hcs hb0
  go_enter Tryd.func32, Tryd.ntmps32
  go_wp2
  generalize w.alloc (.cells #[.int .i64 x1, .int .i64 x2] 70) = w0 at *
  go_loopg [5] ts.length (fun k s5 wr => ∃ i : Nat, i ≤ ts.length ∧ k = ts.length - i ∧ s5 = .int .i64 i ∧ Hid (Below w0.heap.size w0 wr ∧ i + cnt (fun t => beforeT t (x1, x2)) (ts.drop i) = cnt (fun t => beforeT t (x1, x2)) ts))
  case atStart => exact ⟨0, Nat.zero_le _, rfl, rfl, Lib.hid ⟨Below.refl _ _, by simp⟩⟩
  case round =>
    obtain ⟨i, hi, rfl, rfl, hbr⟩ := hrel
    have HW : Hid (Below w.heap.size w wr) := Lib.hid (HB0.out.trans (hbr.out.1.mono HB0.out.size))
    have c1 := (H.out.on HW.out).c1
    by_cases hlt : i < ts.length
    · obtain ⟨ao', cap', he, _, _, hcell⟩ := (H.out.on HW.out).form
      obtain ⟨g, hg, p0, p1⟩ := hcell i hlt
      simp only [Value.slice.injEq] at he
      obtain ⟨rfl, _, rfl⟩ := he
      subst hg
      have hxr : wr.heap[w.heap.size]? = some (.cells #[.int .i64 x1, .int .i64 x2] 70 (0, 0)) := (hbr.out.1.block _ HX.out.2).trans HX.out.1
      have x0 : wr.cell? ⟨w.heap.size, 0, none⟩ = some (.int .i64 x1) := by rw [cell_of_row _ _ _ _ _ _ hxr]; rfl
      have x1' : wr.cell? ⟨w.heap.size, 1, none⟩ = some (.int .i64 x2) := by rw [cell_of_row _ _ _ _ _ _ hxr]; rfl
      have hi0 : (0 : Int) ≤ (i : Int) := by omega
      have hil : (i : Int) < (ts.length : Int) := by omega
      have hd : ts.drop i = ts[i] :: ts.drop (i + 1) := List.drop_eq_getElem_cons hlt
      have HD := Lib.hid hd
      clear hd hcell hxr
      generalize ts[i] = t at *
      obtain ⟨t1, t2⟩ := t
      obtain ⟨q, hq⟩ : ∃ q, beforeT (t1, t2) (x1, x2) = q := ⟨_, rfl⟩
      have HQ := Lib.hid hq
      clear hq
      cases q
      · go_wp2_with fail
        go_region_with (go_at_call 51; refine (before_is _ _ _ _ _ HQ.out _).mono ?_; rintro e w1 ⟨rfl, hb1⟩; have HB1 : Hid (Below w0.heap.size w0 w1) := Lib.hid (hbr.out.1.drew.trans (hb1.mono hbr.out.1.size)); clear hb1)
        all_goals
          go_wp2
          go_ret
          refine ⟨?_, HB0.out.trans (HB1.out.mono HB0.out.size)⟩
          have := hbr.out.2
          rw [HD.out, cnt, List.takeWhile_cons_of_neg (by simp [HQ.out])] at this
          rw [← this]; rfl
      · go_wp2_with fail
        go_region_with (go_at_call 51; refine (before_is _ _ _ _ _ HQ.out _).mono ?_; rintro e w1 ⟨rfl, hb1⟩; have HB1 : Hid (Below w0.heap.size w0 w1) := Lib.hid (hbr.out.1.drew.trans (hb1.mono hbr.out.1.size)); clear hb1)
        all_goals
          go_wp2
          go_roundg (ts.length - (i + 1))
          case measure => omega
          case rel =>
            have := hbr.out.2
            rw [HD.out, cnt, List.takeWhile_cons_of_pos (by simp [HQ.out]), List.length_cons] at this
            exact ⟨i + 1, by omega, rfl, next_int i (by have := HL.out; omega), Lib.hid ⟨HB1.out, by rw [← this, cnt]; omega⟩⟩
    · have hil : (ts.length : Int) ≤ (i : Int) := by omega
      go_wp2_with fail
      go_quiet (fail)
      go_wp2
      go_ret
      refine ⟨?_, HB0.out.trans ((below_drewN' hbr.out.1 _).mono HB0.out.size)⟩
      have := hbr.out.2
      rw [List.drop_eq_nil_of_le (by omega)] at this
      rw [← this]; rfl

set_option maxRecDepth 100000 in
set_option maxHeartbeats 4000000 in
theorem countDue_any (B p : Nat) (now : Int) (v : Value) (ts : List (Int × Int)) (w : World) (h : WhAt w B p now v ts) (hl : ts.length ≤ 100000) :
    Calls Tryd.prog 37 #[.pointer (some ⟨p, 0, none⟩)] w fun e w' => e = .returned (.int .i64 (cnt (fun t => decide (t.2 ≤ now)) ts : Nat)) ∧ Below w.heap.size w w' := by
  have H := Lib.hid h
  obtain ⟨ao, cap, rfl, hc, hm, hcs⟩ := h.form
  have HL := Lib.hid hl
  clear h hc hm hl hcs
  go_enter Tryd.func37, Tryd.ntmps37
  go_wp2
  go_loopg [3] ts.length (fun k s3 wr => ∃ i : Nat, i ≤ ts.length ∧ k = ts.length - i ∧ s3 = .int .i64 i ∧ Hid (Below w.heap.size w wr ∧ i + cnt (fun t => decide (t.2 ≤ now)) (ts.drop i) = cnt (fun t => decide (t.2 ≤ now)) ts))
  case atStart => exact ⟨0, Nat.zero_le _, rfl, rfl, Lib.hid ⟨Below.refl _ _, by simp⟩⟩
  case round =>
    obtain ⟨i, hi, rfl, rfl, hbr⟩ := hrel
    have c0 := (H.out.on hbr.out.1).c0
    have c1 := (H.out.on hbr.out.1).c1
    by_cases hlt : i < ts.length
    · obtain ⟨ao', cap', he, _, _, hcell⟩ := (H.out.on hbr.out.1).form
      obtain ⟨g, hg, p0, p1⟩ := hcell i hlt
      simp only [Value.slice.injEq] at he
      obtain ⟨rfl, _, rfl⟩ := he
      subst hg
      have hi0 : (0 : Int) ≤ (i : Int) := by omega
      have hil : (i : Int) < (ts.length : Int) := by omega
      have hd : ts.drop i = ts[i] :: ts.drop (i + 1) := List.drop_eq_getElem_cons hlt
      have HD := Lib.hid hd
      clear hd hcell
      generalize ts[i] = t at *
      obtain ⟨t1, t2⟩ := t
      by_cases hq : t2 ≤ now
      · go_wp2_with fail
        go_quiet (fail)
        go_wp2
        go_roundg (ts.length - (i + 1))
        case measure => omega
        case rel =>
          have := hbr.out.2
          rw [HD.out, cnt, List.takeWhile_cons_of_pos (by simpa using hq), List.length_cons] at this
          exact ⟨i + 1, by omega, rfl, next_int i (by have := HL.out; omega), Lib.hid ⟨below_drewN' hbr.out.1 _, by rw [← this, cnt]; omega⟩⟩
      · go_wp2_with fail
        go_quiet (fail)
        go_wp2
        go_ret
        refine ⟨?_, below_drewN' hbr.out.1 _⟩
        have := hbr.out.2
        rw [HD.out, cnt, List.takeWhile_cons_of_neg (by simpa using hq)] at this
        rw [← this]; rfl
    · have hil : (ts.length : Int) ≤ (i : Int) := by omega
      go_wp2_with fail
      go_quiet (fail)
      go_wp2
      go_ret
      refine ⟨?_, below_drewN' hbr.out.1 _⟩
      have := hbr.out.2
      rw [List.drop_eq_nil_of_le (by omega)] at this
      rw [← this]; rfl

end Go.Proofs.YtfefkkojdcipcaaDoor
