/- yardref.Few, yardlaw6.least and yardlaw6.first: the chapter's examples hold; all older memory stands. -/
import Derived.Test.YtpocjmlkhophoaaGreatDoorPr4
import Derived.Test.YtpocjmlkhophoaaGreatDoorText
namespace Go.Proofs.YtpocjmlkhophoaaGreatDoor
open Go.RowKit Go.Extern.Stop Go.Stop Go.Extern

def leastC : Cfg := ⟨1, 2, false, 1, 1, 0, 1, 1, 1, 249, 1, 1, 1, [1], [], [], []⟩
def farC : Cfg := { leastC with own := 65520 }
def twoC : Cfg := { leastC with slaves := [7, 7] }
theorem least_check : checkR leastC = okR := by decide +kernel
theorem far_check : checkR farC = ([(sConfig, 1)], 1) := by decide +kernel
theorem two_check : checkR twoC = ([(sConfig, 11), (sItem, 1)], 1) := by decide +kernel
theorem least_length : (imageB leastC).length = 29 := by
  unfold imageB
  rw [List.length_append, leBytes_length, bodyB_length]
  decide
theorem nil_lies (w : World) (n : Nat) (xs : List Value) (h : xs = []) (h0 : n = 0) : LiesAt w (.slice none 0 0) n xs := ⟨none, 0, by rw [h0], by omega, fun i u hi => by rw [h] at hi; simp at hi⟩
theorem one_lies (w : World) (x : Int) : LiesAt (w.alloc (.cells #[.int .i64 x] 3)) (.slice (some ⟨w.heap.size, 0, none⟩) 1 1) 1 (icells [x]) := ⟨_, 1, rfl, by omega, fun i u hi => by
  have : i = 0 := by have := (List.getElem?_eq_some_iff.1 hi).1; simp [icells] at this; exact this
  subst this
  exact ⟨w.heap.size, 0, rfl, by simp [icells] at hi; subst hi; simp⟩⟩
theorem two_lies (w : World) (x y : Int) : LiesAt (w.alloc (.cells #[.int .i64 x, .int .i64 y] 3)) (.slice (some ⟨w.heap.size, 0, none⟩) 2 2) 2 (icells [x, y]) := ⟨_, 2, rfl, by omega, fun i u hi => by
  have h2 : i = 0 ∨ i = 1 := by have := (List.getElem?_eq_some_iff.1 hi).1; simp [icells] at this; omega
  rcases h2 with rfl | rfl
  · exact ⟨w.heap.size, 0, rfl, by simp [icells] at hi; subst hi; simp⟩
  · exact ⟨w.heap.size, 0, rfl, by simp [icells] at hi; subst hi; simp⟩⟩
/-- What least answers: a configuration whose one slave lies in a block of its own. -/
def LeastIs (w : World) (e : Ending) (w' : World) : Prop := ∃ g : Nat, e = .returned (.agg #[.int .i64 1, .int .i64 2, .bool false, .int .i64 1, .int .i64 1, .int .i64 0, .int .i64 1, .int .i64 1, .int .i64 1, .int .i64 249, .int .i64 1, .int .i64 1, .int .i64 1, .slice (some ⟨g, 0, none⟩) 1 1, .slice none 0 0, .slice none 0 0, .slice none 0 0]) ∧ LiesAt w' (.slice (some ⟨g, 0, none⟩) 1 1) 1 (icells [1]) ∧ Below w.heap.size w w'
set_option maxRecDepth 100000 in
set_option maxHeartbeats 2000000 in
theorem least_any (w : World) : Calls Tryz.prog 36 #[] w (LeastIs w) := by
  go_enter Tryz.func36, Tryz.ntmps36
  go_wp2
  refine bodyPost_ret (v := .agg #[.int .i64 1, .int .i64 2, .bool false, .int .i64 1, .int .i64 1, .int .i64 0, .int .i64 1, .int .i64 1, .int .i64 1, .int .i64 249, .int .i64 1, .int .i64 1, .int .i64 1, .slice (some ⟨w.heap.size + 1, 0, none⟩) 1 1, .slice none 0 0, .slice none 0 0, .slice none 0 0]) (by simp [results, Tryz.results36, go_sem]) rfl ⟨w.heap.size + 1, rfl, ?_, ?_⟩
  · simpa using one_lies (w.alloc (.cells #[.int .i64 1, .int .i64 2, .bool false, .int .i64 1, .int .i64 1, .int .i64 0, .int .i64 1, .int .i64 1, .int .i64 1, .int .i64 249, .int .i64 1, .int .i64 1, .int .i64 1, .slice (some ⟨w.heap.size + 1, 0, none⟩) 1 1, .slice none 0 0, .slice none 0 0, .slice none 0 0] 28)) 1
  · exact twoBelow _ _ _
set_option maxRecDepth 100000 in
set_option maxHeartbeats 2000000 in
theorem few_yes (c : Cfg) (a1 a2 a3 a4 : Option Addr) (n1 n2 n3 n4 q1 q2 q3 q4 : Nat) (w : World) (h1 : n1 ≤ 300) (h2 : n2 ≤ 300) (h3 : n3 ≤ 300) (h4 : n4 ≤ 300) : Calls Tryz.prog 14 #[cfgV c (.slice a1 n1 q1) (.slice a2 n2 q2) (.slice a3 n3 q3) (.slice a4 n4 q4)] w fun e w' => e = .returned (.bool true) ∧ Below w.heap.size w w' := by
  have g1 : (n1 : Int) ≤ 300 := by omega
  have g2 : (n2 : Int) ≤ 300 := by omega
  have g3 : (n3 : Int) ≤ 300 := by omega
  have g4 : (n4 : Int) ≤ 300 := by omega
  unfold cfgV
  go_enter Tryz.func14, Tryz.ntmps14
  go_wp2
  go_ret
  exact ⟨rfl, below_new _ _⟩

end Go.Proofs.YtpocjmlkhophoaaGreatDoor
