/- yardlaw4.first: the chapter's examples hold, and older memory stands. -/
import Derived.Test.YtfefkkojdcipcaaDoorTick
import Derived.Test.YtfefkkojdcipcaaDoorSame
namespace Go.Proofs.YtfefkkojdcipcaaDoor
open Go.RowKit Go.Extern.Stop Go.Stop Go.Extern

/-- A Wheel has gone one call on. -/
structure StepTo (w : World) (B p : Nat) (v : Value) (now' : Int) (ts' : List (Int × Int)) (w' : World) (v' : Value) : Prop where
  wh : WhAt w' B p now' v' ts'
  off : Off (Wrote p v) w w'
  fresh : ∀ k, v'.ownBlock = some k → v.ownBlock = some k ∨ w.heap.size ≤ k
  below : Below B w w'
  ints : ∀ x l, IntsOwn w x l → IntsOwn w' x l
theorem Turned.step {w w' : World} {B p : Nat} {now now' : Int} {v : Value} {ts ts' : List (Int × Int)} (ht : Turned w B p v now' ts' w') (h : WhAt w B p now v ts) : ∃ v', StepTo w B p v now' ts' w' v' := by
  have hB : B ≤ w.heap.size := Nat.le_trans h.base (Nat.le_of_lt h.lt)
  have hb := Turned.below h hB ht
  obtain ⟨v', h1, h2, h3⟩ := ht
  exact ⟨v', h1, h2, h3, hb, fun x l hx => hx.off h h2⟩

theorem lit_ints1 (w : World) (a : Int) : IntsAt (w.alloc (.cells #[.int .i64 a] 3)) (.slice (some ⟨w.heap.size, 0, none⟩) 1 1) [a] := by
  refine ⟨some ⟨w.heap.size, 0, none⟩, 1, rfl, fun i hi => ⟨w.heap.size, 0, rfl, ?_⟩⟩
  have : i = 0 := by simp at hi; omega
  subst this
  simp
theorem lit_ints2 (w : World) (a b : Int) : IntsAt (w.alloc (.cells #[.int .i64 a, .int .i64 b] 3)) (.slice (some ⟨w.heap.size, 0, none⟩) 2 2) [a, b] := by
  refine ⟨some ⟨w.heap.size, 0, none⟩, 2, rfl, fun i hi => ⟨w.heap.size, 0, rfl, ?_⟩⟩
  rcases (show i = 0 ∨ i = 1 by simp at hi; omega) with rfl | rfl <;> simp
theorem below_one {B : Nat} {a w : World} (h : Below B a w) (o : Obj) (hB : B ≤ w.heap.size) : Below B a (w.alloc o) := h.alloc hB o

set_option maxRecDepth 100000 in
set_option maxHeartbeats 8000000 in
theorem first_any (w : World) (hg : ErrT w) : Calls Tryd.prog 9 #[] w fun e w' => e = .returned (.bool true) ∧ Below w.heap.size w w' := by
  have HG := Lib.hid hg
  clear hg
  go_enter Tryd.func9, Tryd.ntmps9
  go_wp2_with fail
  refine (new_any _).mono ?_
  rintro e w0 ⟨rfl, hw0⟩
  have H0 : Hid (WhAt w0 w.heap.size w.heap.size 0 (.slice none 0 0) []) := Lib.hid (by rw [hw0]; exact whAt_new w)
  have B0 : Hid (Below w.heap.size w w0) := Lib.hid (by rw [hw0]; exact below_new w _)
  clear hw0
  go_wp2_with fail
  refine (set_ok w.heap.size w.heap.size 0 _ [] 3 5 w0 H0.out (by simp) (by omega) (by omega) (by omega) (by omega) (by omega) (by omega) B0.out.size).mono ?_
  rintro e w1 ⟨rfl, ht⟩
  obtain ⟨v1, st⟩ := ht.step H0.out
  have S1 : Hid (StepTo w0 w.heap.size w.heap.size _ 0 [(3, 5)] w1 v1) := Lib.hid st
  have B1 : Hid (Below w.heap.size w w1) := Lib.hid (B0.out.trans st.below)
  clear ht st
  go_wp2_with fail
  refine (set_ok w.heap.size w.heap.size 0 _ _ 1 5 w1 S1.out.wh (by simp) (by omega) (by omega) (by omega) (by omega) (by omega) (by omega) B1.out.size).mono ?_
  rintro e w2 ⟨rfl, ht⟩
  obtain ⟨v2, st⟩ := ht.step S1.out.wh
  have S2 : Hid (StepTo w1 w.heap.size w.heap.size _ 0 [(1, 5), (3, 5)] w2 v2) := Lib.hid st
  have B2 : Hid (Below w.heap.size w w2) := Lib.hid (B1.out.trans st.below)
  clear ht st
  go_wp2_with fail
  refine (set_ok w.heap.size w.heap.size 0 _ _ 2 9 w2 S2.out.wh (by simp) (by omega) (by omega) (by omega) (by omega) (by omega) (by omega) B2.out.size).mono ?_
  rintro e w3 ⟨rfl, ht⟩
  obtain ⟨v3, st⟩ := ht.step S2.out.wh
  have S3 : Hid (StepTo w2 w.heap.size w.heap.size _ 0 [(1, 5), (3, 5), (2, 9)] w3 v3) := Lib.hid st
  have B3 : Hid (Below w.heap.size w w3) := Lib.hid (B2.out.trans st.below)
  clear ht st
  go_wp2_with fail
  refine (tick_ok w.heap.size w.heap.size 0 _ _ 5 w3 S3.out.wh (by simp) (by omega) (by omega) (by omega) (by omega)).mono ?_
  rintro e w4 ⟨a, rfl, ha, ht⟩
  obtain ⟨v4, st⟩ := ht.step S3.out.wh
  have S4 : Hid (StepTo w3 w.heap.size w.heap.size _ 5 [(2, 9)] w4 v4) := Lib.hid st
  have A4 : Hid (IntsOwn w4 a [1, 3]) := Lib.hid ha
  have B4 : Hid (Below w.heap.size w w4) := Lib.hid (B3.out.trans st.below)
  clear ht st ha
  go_wp2_with fail
  refine (tick_ok w.heap.size w.heap.size 5 _ _ 3 w4 S4.out.wh (by simp) (by omega) (by omega) (by omega) (by omega)).mono ?_
  rintro e w5 ⟨b, rfl, hb, ht⟩
  obtain ⟨v5, st⟩ := ht.step S4.out.wh
  have S5 : Hid (StepTo w4 w.heap.size w.heap.size _ 8 [(2, 9)] w5 v5) := Lib.hid st
  obtain ⟨ab, cb, rfl⟩ := (show IntsOwn w5 b [] from hb).slice
  have A5 : Hid (IntsOwn w5 a [1, 3]) := Lib.hid (st.ints _ _ A4.out)
  have B5 : Hid (Below w.heap.size w w5) := Lib.hid (B4.out.trans st.below)
  clear ht st hb
  go_wp2_with fail
  refine (tick_ok w.heap.size w.heap.size 8 _ _ 1 w5 S5.out.wh (by simp) (by omega) (by omega) (by omega) (by omega)).mono ?_
  rintro e w6 ⟨c, rfl, hc, ht⟩
  obtain ⟨v6, st⟩ := ht.step S5.out.wh
  have S6 : Hid (StepTo w5 w.heap.size w.heap.size _ 9 [] w6 v6) := Lib.hid st
  have C6 : Hid (IntsOwn w6 c [2]) := Lib.hid hc
  have A6 : Hid (IntsOwn w6 a [1, 3]) := Lib.hid (st.ints _ _ A5.out)
  have B6 : Hid (Below w.heap.size w w6) := Lib.hid (B5.out.trans st.below)
  clear ht st hc
  obtain ⟨aa, ca, rfl⟩ := A6.out.slice
  obtain ⟨ac, cc, rfl⟩ := C6.out.slice
  have N6 : Hid (Below w6.heap.size w6 (w6.alloc (.cells #[.int .i64 1, .int .i64 3] 3))) := Lib.hid (below_new _ _)
  go_wp2_with fail
  refine (ints_any _ _ [1, 3] [1, 3] _ (A6.out.at.on N6.out) (lit_ints2 _ _ _) (by simp)).mono ?_
  rintro e w7 ⟨rfl, hb7⟩
  have D7 : Hid (Below w6.heap.size w6 w7) := Lib.hid (N6.out.trans (hb7.mono N6.out.size))
  clear hb7
  go_wp2_with fail
  have N7 : Hid (Below w7.heap.size w7 (w7.alloc (.cells #[.int .i64 2] 3))) := Lib.hid (below_new _ _)
  refine (ints_any _ _ [2] [2] _ ((C6.out.at.on D7.out).on N7.out) (lit_ints1 _ _) (by simp)).mono ?_
  rintro e w8 ⟨rfl, hb8⟩
  have D8 : Hid (Below w6.heap.size w6 w8) := Lib.hid ((D7.out.trans (N7.out.mono D7.out.size)).trans (hb8.mono (D7.out.trans (N7.out.mono D7.out.size)).size))
  clear hb8
  go_wp2_with fail
  refine (now_any w.heap.size w.heap.size 9 v6 [] _ (S6.out.wh.on D8.out)).mono ?_
  rintro e w9 ⟨rfl, rfl⟩
  go_wp2_with fail
  refine (set_bad w.heap.size (-1) 0 _ (by omega)).mono ?_
  rintro e w9 ⟨x, rfl, hx, hb9⟩
  have HX := Lib.hid hx
  have B9 : Hid (Below w.heap.size w w9) := Lib.hid (B6.out.trans ((D8.out.trans (hb9.mono D8.out.size)).mono B6.out.size))
  obtain ⟨te, ye, rfl⟩ := Chain.iface hx
  clear hx hb9
  go_wp2_with fail
  refine (of_code _ _ 1 _ (HG.out.up B9.out) HX.out).mono ?_
  rintro e w10 ⟨rfl, hb10⟩
  have B10 : Hid (Below w.heap.size w w10) := Lib.hid (B9.out.trans (hb10.mono B9.out.size))
  clear hb10
  go_wp2
  go_ret
  exact ⟨rfl, B10.out⟩
end Go.Proofs.YtfefkkojdcipcaaDoor
