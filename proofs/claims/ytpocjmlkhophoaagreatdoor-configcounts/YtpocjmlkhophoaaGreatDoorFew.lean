/- yardref.Few: no list has more than 300. -/
import Derived.Test.YtpocjmlkhophoaaGreatDoorFs
namespace Go.Proofs.YtpocjmlkhophoaaGreatDoor
open Go.RowKit Go.Extern.Stop Go.Stop Go.Extern
set_option maxRecDepth 100000 in
set_option maxHeartbeats 2000000 in
theorem few_no1 (c : Cfg) (a1 a2 a3 a4 : Option Addr) (n1 n2 n3 n4 q1 q2 q3 q4 : Nat) (w : World)  (h1 : ¬ n1 ≤ 300) : Calls Tryz.prog 14 #[cfgV c (.slice a1 n1 q1) (.slice a2 n2 q2) (.slice a3 n3 q3) (.slice a4 n4 q4)] w fun e w' => e = .returned (.bool false) ∧ Below w.heap.size w w' := by
  have g1 : ¬ (n1 : Int) ≤ 300 := by omega
  unfold cfgV
  go_enter Tryz.func14, Tryz.ntmps14
  go_wp2
  go_ret
  exact ⟨rfl, below_new _ _⟩
set_option maxRecDepth 100000 in
set_option maxHeartbeats 2000000 in
theorem few_no2 (c : Cfg) (a1 a2 a3 a4 : Option Addr) (n1 n2 n3 n4 q1 q2 q3 q4 : Nat) (w : World) (h1 : n1 ≤ 300) (h2 : ¬ n2 ≤ 300) : Calls Tryz.prog 14 #[cfgV c (.slice a1 n1 q1) (.slice a2 n2 q2) (.slice a3 n3 q3) (.slice a4 n4 q4)] w fun e w' => e = .returned (.bool false) ∧ Below w.heap.size w w' := by
  have g1 : (n1 : Int) ≤ 300 := by omega
  have g2 : ¬ (n2 : Int) ≤ 300 := by omega
  unfold cfgV
  go_enter Tryz.func14, Tryz.ntmps14
  go_wp2
  go_ret
  exact ⟨rfl, below_new _ _⟩
set_option maxRecDepth 100000 in
set_option maxHeartbeats 2000000 in
theorem few_no3 (c : Cfg) (a1 a2 a3 a4 : Option Addr) (n1 n2 n3 n4 q1 q2 q3 q4 : Nat) (w : World) (h1 : n1 ≤ 300) (h2 : n2 ≤ 300) (h3 : ¬ n3 ≤ 300) : Calls Tryz.prog 14 #[cfgV c (.slice a1 n1 q1) (.slice a2 n2 q2) (.slice a3 n3 q3) (.slice a4 n4 q4)] w fun e w' => e = .returned (.bool false) ∧ Below w.heap.size w w' := by
  have g1 : (n1 : Int) ≤ 300 := by omega
  have g2 : (n2 : Int) ≤ 300 := by omega
  have g3 : ¬ (n3 : Int) ≤ 300 := by omega
  unfold cfgV
  go_enter Tryz.func14, Tryz.ntmps14
  go_wp2
  go_ret
  exact ⟨rfl, below_new _ _⟩
set_option maxRecDepth 100000 in
set_option maxHeartbeats 2000000 in
theorem few_no4 (c : Cfg) (a1 a2 a3 a4 : Option Addr) (n1 n2 n3 n4 q1 q2 q3 q4 : Nat) (w : World) (h1 : n1 ≤ 300) (h2 : n2 ≤ 300) (h3 : n3 ≤ 300) (h4 : ¬ n4 ≤ 300) : Calls Tryz.prog 14 #[cfgV c (.slice a1 n1 q1) (.slice a2 n2 q2) (.slice a3 n3 q3) (.slice a4 n4 q4)] w fun e w' => e = .returned (.bool false) ∧ Below w.heap.size w w' := by
  have g1 : (n1 : Int) ≤ 300 := by omega
  have g2 : (n2 : Int) ≤ 300 := by omega
  have g3 : (n3 : Int) ≤ 300 := by omega
  have g4 : ¬ (n4 : Int) ≤ 300 := by omega
  unfold cfgV
  go_enter Tryz.func14, Tryz.ntmps14
  go_wp2
  go_ret
  exact ⟨rfl, below_new _ _⟩
instance (c : Cfg) : Decidable (FewC c) := by unfold FewC; infer_instance
theorem few_any (c : Cfg) (sl po pt ct : Value) (w : World) (hl : ListsAt w c sl po pt ct) : Calls Tryz.prog 14 #[cfgV c sl po pt ct] w fun e w' => e = .returned (.bool (decide (FewC c))) ∧ Below w.heap.size w w' := by
  obtain ⟨⟨a1, q1, rfl, _⟩, ⟨a2, q2, rfl, _⟩, ⟨a3, q3, rfl, _⟩, ⟨a4, q4, rfl, _⟩⟩ := hl
  by_cases h1 : c.slaves.length ≤ 300
  · by_cases h2 : c.polls.length ≤ 300
    · by_cases h3 : c.points.length ≤ 300
      · by_cases h4 : c.ctls.length ≤ 300
        · rw [decide_eq_true (show FewC c from ⟨h1, h2, h3, h4⟩)]
          exact few_yes c a1 a2 a3 a4 _ _ _ _ q1 q2 q3 q4 w h1 h2 h3 h4
        · rw [decide_eq_false (fun h : FewC c => h4 h.2.2.2)]
          exact few_no4 c a1 a2 a3 a4 _ _ _ _ q1 q2 q3 q4 w h1 h2 h3 h4
      · rw [decide_eq_false (fun h : FewC c => h3 h.2.2.1)]
        exact few_no3 c a1 a2 a3 a4 _ _ _ _ q1 q2 q3 q4 w h1 h2 h3
    · rw [decide_eq_false (fun h : FewC c => h2 h.2.1)]
      exact few_no2 c a1 a2 a3 a4 _ _ _ _ q1 q2 q3 q4 w h1 h2
  · rw [decide_eq_false (fun h : FewC c => h1 h.1)]
    exact few_no1 c a1 a2 a3 a4 _ _ _ _ q1 q2 q3 q4 w h1
end Go.Proofs.YtpocjmlkhophoaaGreatDoor
