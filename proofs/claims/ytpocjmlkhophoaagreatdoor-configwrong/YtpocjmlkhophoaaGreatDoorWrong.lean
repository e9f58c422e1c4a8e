/- yardlaw6.ConfigWrong answers true; all older memory stands. -/
import Derived.Test.YtpocjmlkhophoaaGreatDoorOne
import Derived.Test.YtpocjmlkhophoaaGreatDoorSizes
import Derived.Test.YtpocjmlkhophoaaGreatDoorDecAll
namespace Go.Proofs.YtpocjmlkhophoaaGreatDoor
open Go.RowKit Go.Extern.Stop Go.Stop Go.Extern

theorem w_itoa1 : Lib.itoa 1 = [49] := by simp [Lib.itoa, Lib.decDigits]
theorem w_text1 : (⟨(pathText [(sConfig, 1)] ++ (codeText 1).data.toList).toArray⟩ : ByteArray) = ⟨#[99, 111, 110, 102, 105, 103, 32, 49, 58, 32, 99, 111, 100, 101, 32, 49]⟩ := by
  unfold pathText pathText place codeText
  rw [w_itoa1]
  decide +kernel
theorem w_short1 : Short [(sConfig, 1)] := by
  have e : pathText [(sConfig, 1)] = [99, 111, 110, 102, 105, 103, 32, 49, 58, 32] := by
    unfold pathText pathText place
    rw [w_itoa1]
    decide +kernel
  refine ⟨by rw [e]; decide, by decide, ?_⟩
  intro x hx
  simp at hx
  subst hx
  exact ⟨by decide, by unfold IsInt; omega⟩
theorem w_dec1 (w : World) : Calls Tryz.prog 35 #[.int .i64 1] w fun e w' => e = .returned (.string ⟨#[49]⟩) ∧ Below w.heap.size w w' := by
  have h := dec_any 1 (by unfold IsInt; omega) w
  rw [w_itoa1] at h
  exact h
theorem w_one1 (w : World) : (Op.stringOp .add ⟨#[99, 111, 110, 102, 105, 103, 32]⟩ ⟨#[49]⟩).run Tryz.prog w = .ok (.string ⟨#[99, 111, 110, 102, 105, 103, 32, 49]⟩) w := (wconcat _ _ (by decide) w).trans (congrArg (fun b => Result.ok (Value.string b) w) (by decide +kernel))
theorem w_two1 (w : World) : (Op.stringOp .add ⟨#[99, 111, 110, 102, 105, 103, 32, 49]⟩ ⟨#[58, 32, 99, 111, 100, 101, 32, 49]⟩).run Tryz.prog w = .ok (.string ⟨#[99, 111, 110, 102, 105, 103, 32, 49, 58, 32, 99, 111, 100, 101, 32, 49]⟩) w := (wconcat _ _ (by decide) w).trans (congrArg (fun b => Result.ok (Value.string b) w) (by decide +kernel))
theorem w_itoa2 : Lib.itoa 2 = [50] := by simp [Lib.itoa, Lib.decDigits]
theorem w_text2 : (⟨(pathText [(sConfig, 2)] ++ (codeText 1).data.toList).toArray⟩ : ByteArray) = ⟨#[99, 111, 110, 102, 105, 103, 32, 50, 58, 32, 99, 111, 100, 101, 32, 49]⟩ := by
  unfold pathText pathText place codeText
  rw [w_itoa1, w_itoa2]
  decide +kernel
theorem w_short2 : Short [(sConfig, 2)] := by
  have e : pathText [(sConfig, 2)] = [99, 111, 110, 102, 105, 103, 32, 50, 58, 32] := by
    unfold pathText pathText place
    rw [w_itoa2]
    decide +kernel
  refine ⟨by rw [e]; decide, by decide, ?_⟩
  intro x hx
  simp at hx
  subst hx
  exact ⟨by decide, by unfold IsInt; omega⟩
theorem w_dec2 (w : World) : Calls Tryz.prog 35 #[.int .i64 2] w fun e w' => e = .returned (.string ⟨#[50]⟩) ∧ Below w.heap.size w w' := by
  have h := dec_any 2 (by unfold IsInt; omega) w
  rw [w_itoa2] at h
  exact h
theorem w_one2 (w : World) : (Op.stringOp .add ⟨#[99, 111, 110, 102, 105, 103, 32]⟩ ⟨#[50]⟩).run Tryz.prog w = .ok (.string ⟨#[99, 111, 110, 102, 105, 103, 32, 50]⟩) w := (wconcat _ _ (by decide) w).trans (congrArg (fun b => Result.ok (Value.string b) w) (by decide +kernel))
theorem w_two2 (w : World) : (Op.stringOp .add ⟨#[99, 111, 110, 102, 105, 103, 32, 50]⟩ ⟨#[58, 32, 99, 111, 100, 101, 32, 49]⟩).run Tryz.prog w = .ok (.string ⟨#[99, 111, 110, 102, 105, 103, 32, 50, 58, 32, 99, 111, 100, 101, 32, 49]⟩) w := (wconcat _ _ (by decide) w).trans (congrArg (fun b => Result.ok (Value.string b) w) (by decide +kernel))
theorem w_itoa3 : Lib.itoa 3 = [51] := by simp [Lib.itoa, Lib.decDigits]
theorem w_text3 : (⟨(pathText [(sConfig, 3)] ++ (codeText 1).data.toList).toArray⟩ : ByteArray) = ⟨#[99, 111, 110, 102, 105, 103, 32, 51, 58, 32, 99, 111, 100, 101, 32, 49]⟩ := by
  unfold pathText pathText place codeText
  rw [w_itoa1, w_itoa3]
  decide +kernel
theorem w_short3 : Short [(sConfig, 3)] := by
  have e : pathText [(sConfig, 3)] = [99, 111, 110, 102, 105, 103, 32, 51, 58, 32] := by
    unfold pathText pathText place
    rw [w_itoa3]
    decide +kernel
  refine ⟨by rw [e]; decide, by decide, ?_⟩
  intro x hx
  simp at hx
  subst hx
  exact ⟨by decide, by unfold IsInt; omega⟩
theorem w_dec3 (w : World) : Calls Tryz.prog 35 #[.int .i64 3] w fun e w' => e = .returned (.string ⟨#[51]⟩) ∧ Below w.heap.size w w' := by
  have h := dec_any 3 (by unfold IsInt; omega) w
  rw [w_itoa3] at h
  exact h
theorem w_one3 (w : World) : (Op.stringOp .add ⟨#[99, 111, 110, 102, 105, 103, 32]⟩ ⟨#[51]⟩).run Tryz.prog w = .ok (.string ⟨#[99, 111, 110, 102, 105, 103, 32, 51]⟩) w := (wconcat _ _ (by decide) w).trans (congrArg (fun b => Result.ok (Value.string b) w) (by decide +kernel))
theorem w_two3 (w : World) : (Op.stringOp .add ⟨#[99, 111, 110, 102, 105, 103, 32, 51]⟩ ⟨#[58, 32, 99, 111, 100, 101, 32, 49]⟩).run Tryz.prog w = .ok (.string ⟨#[99, 111, 110, 102, 105, 103, 32, 51, 58, 32, 99, 111, 100, 101, 32, 49]⟩) w := (wconcat _ _ (by decide) w).trans (congrArg (fun b => Result.ok (Value.string b) w) (by decide +kernel))
theorem w_itoa4 : Lib.itoa 4 = [52] := by simp [Lib.itoa, Lib.decDigits]
theorem w_text4 : (⟨(pathText [(sConfig, 4)] ++ (codeText 1).data.toList).toArray⟩ : ByteArray) = ⟨#[99, 111, 110, 102, 105, 103, 32, 52, 58, 32, 99, 111, 100, 101, 32, 49]⟩ := by
  unfold pathText pathText place codeText
  rw [w_itoa1, w_itoa4]
  decide +kernel
theorem w_short4 : Short [(sConfig, 4)] := by
  have e : pathText [(sConfig, 4)] = [99, 111, 110, 102, 105, 103, 32, 52, 58, 32] := by
    unfold pathText pathText place
    rw [w_itoa4]
    decide +kernel
  refine ⟨by rw [e]; decide, by decide, ?_⟩
  intro x hx
  simp at hx
  subst hx
  exact ⟨by decide, by unfold IsInt; omega⟩
theorem w_dec4 (w : World) : Calls Tryz.prog 35 #[.int .i64 4] w fun e w' => e = .returned (.string ⟨#[52]⟩) ∧ Below w.heap.size w w' := by
  have h := dec_any 4 (by unfold IsInt; omega) w
  rw [w_itoa4] at h
  exact h
theorem w_one4 (w : World) : (Op.stringOp .add ⟨#[99, 111, 110, 102, 105, 103, 32]⟩ ⟨#[52]⟩).run Tryz.prog w = .ok (.string ⟨#[99, 111, 110, 102, 105, 103, 32, 52]⟩) w := (wconcat _ _ (by decide) w).trans (congrArg (fun b => Result.ok (Value.string b) w) (by decide +kernel))
theorem w_two4 (w : World) : (Op.stringOp .add ⟨#[99, 111, 110, 102, 105, 103, 32, 52]⟩ ⟨#[58, 32, 99, 111, 100, 101, 32, 49]⟩).run Tryz.prog w = .ok (.string ⟨#[99, 111, 110, 102, 105, 103, 32, 52, 58, 32, 99, 111, 100, 101, 32, 49]⟩) w := (wconcat _ _ (by decide) w).trans (congrArg (fun b => Result.ok (Value.string b) w) (by decide +kernel))
theorem w_itoa5 : Lib.itoa 5 = [53] := by simp [Lib.itoa, Lib.decDigits]
theorem w_text5 : (⟨(pathText [(sConfig, 5)] ++ (codeText 1).data.toList).toArray⟩ : ByteArray) = ⟨#[99, 111, 110, 102, 105, 103, 32, 53, 58, 32, 99, 111, 100, 101, 32, 49]⟩ := by
  unfold pathText pathText place codeText
  rw [w_itoa1, w_itoa5]
  decide +kernel
theorem w_short5 : Short [(sConfig, 5)] := by
  have e : pathText [(sConfig, 5)] = [99, 111, 110, 102, 105, 103, 32, 53, 58, 32] := by
    unfold pathText pathText place
    rw [w_itoa5]
    decide +kernel
  refine ⟨by rw [e]; decide, by decide, ?_⟩
  intro x hx
  simp at hx
  subst hx
  exact ⟨by decide, by unfold IsInt; omega⟩
theorem w_dec5 (w : World) : Calls Tryz.prog 35 #[.int .i64 5] w fun e w' => e = .returned (.string ⟨#[53]⟩) ∧ Below w.heap.size w w' := by
  have h := dec_any 5 (by unfold IsInt; omega) w
  rw [w_itoa5] at h
  exact h
theorem w_one5 (w : World) : (Op.stringOp .add ⟨#[99, 111, 110, 102, 105, 103, 32]⟩ ⟨#[53]⟩).run Tryz.prog w = .ok (.string ⟨#[99, 111, 110, 102, 105, 103, 32, 53]⟩) w := (wconcat _ _ (by decide) w).trans (congrArg (fun b => Result.ok (Value.string b) w) (by decide +kernel))
theorem w_two5 (w : World) : (Op.stringOp .add ⟨#[99, 111, 110, 102, 105, 103, 32, 53]⟩ ⟨#[58, 32, 99, 111, 100, 101, 32, 49]⟩).run Tryz.prog w = .ok (.string ⟨#[99, 111, 110, 102, 105, 103, 32, 53, 58, 32, 99, 111, 100, 101, 32, 49]⟩) w := (wconcat _ _ (by decide) w).trans (congrArg (fun b => Result.ok (Value.string b) w) (by decide +kernel))
theorem w_itoa6 : Lib.itoa 6 = [54] := by simp [Lib.itoa, Lib.decDigits]
theorem w_text6 : (⟨(pathText [(sConfig, 6)] ++ (codeText 1).data.toList).toArray⟩ : ByteArray) = ⟨#[99, 111, 110, 102, 105, 103, 32, 54, 58, 32, 99, 111, 100, 101, 32, 49]⟩ := by
  unfold pathText pathText place codeText
  rw [w_itoa1, w_itoa6]
  decide +kernel
theorem w_short6 : Short [(sConfig, 6)] := by
  have e : pathText [(sConfig, 6)] = [99, 111, 110, 102, 105, 103, 32, 54, 58, 32] := by
    unfold pathText pathText place
    rw [w_itoa6]
    decide +kernel
  refine ⟨by rw [e]; decide, by decide, ?_⟩
  intro x hx
  simp at hx
  subst hx
  exact ⟨by decide, by unfold IsInt; omega⟩
theorem w_dec6 (w : World) : Calls Tryz.prog 35 #[.int .i64 6] w fun e w' => e = .returned (.string ⟨#[54]⟩) ∧ Below w.heap.size w w' := by
  have h := dec_any 6 (by unfold IsInt; omega) w
  rw [w_itoa6] at h
  exact h
theorem w_one6 (w : World) : (Op.stringOp .add ⟨#[99, 111, 110, 102, 105, 103, 32]⟩ ⟨#[54]⟩).run Tryz.prog w = .ok (.string ⟨#[99, 111, 110, 102, 105, 103, 32, 54]⟩) w := (wconcat _ _ (by decide) w).trans (congrArg (fun b => Result.ok (Value.string b) w) (by decide +kernel))
theorem w_two6 (w : World) : (Op.stringOp .add ⟨#[99, 111, 110, 102, 105, 103, 32, 54]⟩ ⟨#[58, 32, 99, 111, 100, 101, 32, 49]⟩).run Tryz.prog w = .ok (.string ⟨#[99, 111, 110, 102, 105, 103, 32, 54, 58, 32, 99, 111, 100, 101, 32, 49]⟩) w := (wconcat _ _ (by decide) w).trans (congrArg (fun b => Result.ok (Value.string b) w) (by decide +kernel))
theorem w_itoa7 : Lib.itoa 7 = [55] := by simp [Lib.itoa, Lib.decDigits]
theorem w_text7 : (⟨(pathText [(sConfig, 7)] ++ (codeText 1).data.toList).toArray⟩ : ByteArray) = ⟨#[99, 111, 110, 102, 105, 103, 32, 55, 58, 32, 99, 111, 100, 101, 32, 49]⟩ := by
  unfold pathText pathText place codeText
  rw [w_itoa1, w_itoa7]
  decide +kernel
theorem w_short7 : Short [(sConfig, 7)] := by
  have e : pathText [(sConfig, 7)] = [99, 111, 110, 102, 105, 103, 32, 55, 58, 32] := by
    unfold pathText pathText place
    rw [w_itoa7]
    decide +kernel
  refine ⟨by rw [e]; decide, by decide, ?_⟩
  intro x hx
  simp at hx
  subst hx
  exact ⟨by decide, by unfold IsInt; omega⟩
theorem w_dec7 (w : World) : Calls Tryz.prog 35 #[.int .i64 7] w fun e w' => e = .returned (.string ⟨#[55]⟩) ∧ Below w.heap.size w w' := by
  have h := dec_any 7 (by unfold IsInt; omega) w
  rw [w_itoa7] at h
  exact h
theorem w_one7 (w : World) : (Op.stringOp .add ⟨#[99, 111, 110, 102, 105, 103, 32]⟩ ⟨#[55]⟩).run Tryz.prog w = .ok (.string ⟨#[99, 111, 110, 102, 105, 103, 32, 55]⟩) w := (wconcat _ _ (by decide) w).trans (congrArg (fun b => Result.ok (Value.string b) w) (by decide +kernel))
theorem w_two7 (w : World) : (Op.stringOp .add ⟨#[99, 111, 110, 102, 105, 103, 32, 55]⟩ ⟨#[58, 32, 99, 111, 100, 101, 32, 49]⟩).run Tryz.prog w = .ok (.string ⟨#[99, 111, 110, 102, 105, 103, 32, 55, 58, 32, 99, 111, 100, 101, 32, 49]⟩) w := (wconcat _ _ (by decide) w).trans (congrArg (fun b => Result.ok (Value.string b) w) (by decide +kernel))
theorem w_itoa8 : Lib.itoa 8 = [56] := by simp [Lib.itoa, Lib.decDigits]
theorem w_text8 : (⟨(pathText [(sConfig, 8)] ++ (codeText 1).data.toList).toArray⟩ : ByteArray) = ⟨#[99, 111, 110, 102, 105, 103, 32, 56, 58, 32, 99, 111, 100, 101, 32, 49]⟩ := by
  unfold pathText pathText place codeText
  rw [w_itoa1, w_itoa8]
  decide +kernel
theorem w_short8 : Short [(sConfig, 8)] := by
  have e : pathText [(sConfig, 8)] = [99, 111, 110, 102, 105, 103, 32, 56, 58, 32] := by
    unfold pathText pathText place
    rw [w_itoa8]
    decide +kernel
  refine ⟨by rw [e]; decide, by decide, ?_⟩
  intro x hx
  simp at hx
  subst hx
  exact ⟨by decide, by unfold IsInt; omega⟩
theorem w_dec8 (w : World) : Calls Tryz.prog 35 #[.int .i64 8] w fun e w' => e = .returned (.string ⟨#[56]⟩) ∧ Below w.heap.size w w' := by
  have h := dec_any 8 (by unfold IsInt; omega) w
  rw [w_itoa8] at h
  exact h
theorem w_one8 (w : World) : (Op.stringOp .add ⟨#[99, 111, 110, 102, 105, 103, 32]⟩ ⟨#[56]⟩).run Tryz.prog w = .ok (.string ⟨#[99, 111, 110, 102, 105, 103, 32, 56]⟩) w := (wconcat _ _ (by decide) w).trans (congrArg (fun b => Result.ok (Value.string b) w) (by decide +kernel))
theorem w_two8 (w : World) : (Op.stringOp .add ⟨#[99, 111, 110, 102, 105, 103, 32, 56]⟩ ⟨#[58, 32, 99, 111, 100, 101, 32, 49]⟩).run Tryz.prog w = .ok (.string ⟨#[99, 111, 110, 102, 105, 103, 32, 56, 58, 32, 99, 111, 100, 101, 32, 49]⟩) w := (wconcat _ _ (by decide) w).trans (congrArg (fun b => Result.ok (Value.string b) w) (by decide +kernel))
theorem w_itoa9 : Lib.itoa 9 = [57] := by simp [Lib.itoa, Lib.decDigits]
theorem w_text9 : (⟨(pathText [(sConfig, 9)] ++ (codeText 1).data.toList).toArray⟩ : ByteArray) = ⟨#[99, 111, 110, 102, 105, 103, 32, 57, 58, 32, 99, 111, 100, 101, 32, 49]⟩ := by
  unfold pathText pathText place codeText
  rw [w_itoa1, w_itoa9]
  decide +kernel
theorem w_short9 : Short [(sConfig, 9)] := by
  have e : pathText [(sConfig, 9)] = [99, 111, 110, 102, 105, 103, 32, 57, 58, 32] := by
    unfold pathText pathText place
    rw [w_itoa9]
    decide +kernel
  refine ⟨by rw [e]; decide, by decide, ?_⟩
  intro x hx
  simp at hx
  subst hx
  exact ⟨by decide, by unfold IsInt; omega⟩
theorem w_dec9 (w : World) : Calls Tryz.prog 35 #[.int .i64 9] w fun e w' => e = .returned (.string ⟨#[57]⟩) ∧ Below w.heap.size w w' := by
  have h := dec_any 9 (by unfold IsInt; omega) w
  rw [w_itoa9] at h
  exact h
theorem w_one9 (w : World) : (Op.stringOp .add ⟨#[99, 111, 110, 102, 105, 103, 32]⟩ ⟨#[57]⟩).run Tryz.prog w = .ok (.string ⟨#[99, 111, 110, 102, 105, 103, 32, 57]⟩) w := (wconcat _ _ (by decide) w).trans (congrArg (fun b => Result.ok (Value.string b) w) (by decide +kernel))
theorem w_two9 (w : World) : (Op.stringOp .add ⟨#[99, 111, 110, 102, 105, 103, 32, 57]⟩ ⟨#[58, 32, 99, 111, 100, 101, 32, 49]⟩).run Tryz.prog w = .ok (.string ⟨#[99, 111, 110, 102, 105, 103, 32, 57, 58, 32, 99, 111, 100, 101, 32, 49]⟩) w := (wconcat _ _ (by decide) w).trans (congrArg (fun b => Result.ok (Value.string b) w) (by decide +kernel))
theorem w_itoa10 : Lib.itoa 10 = [49, 48] := by simp [Lib.itoa, Lib.decDigits]
theorem w_text10 : (⟨(pathText [(sConfig, 10)] ++ (codeText 1).data.toList).toArray⟩ : ByteArray) = ⟨#[99, 111, 110, 102, 105, 103, 32, 49, 48, 58, 32, 99, 111, 100, 101, 32, 49]⟩ := by
  unfold pathText pathText place codeText
  rw [w_itoa1, w_itoa10]
  decide +kernel
theorem w_short10 : Short [(sConfig, 10)] := by
  have e : pathText [(sConfig, 10)] = [99, 111, 110, 102, 105, 103, 32, 49, 48, 58, 32] := by
    unfold pathText pathText place
    rw [w_itoa10]
    decide +kernel
  refine ⟨by rw [e]; decide, by decide, ?_⟩
  intro x hx
  simp at hx
  subst hx
  exact ⟨by decide, by unfold IsInt; omega⟩
theorem w_dec10 (w : World) : Calls Tryz.prog 35 #[.int .i64 10] w fun e w' => e = .returned (.string ⟨#[49, 48]⟩) ∧ Below w.heap.size w w' := by
  have h := dec_any 10 (by unfold IsInt; omega) w
  rw [w_itoa10] at h
  exact h
theorem w_one10 (w : World) : (Op.stringOp .add ⟨#[99, 111, 110, 102, 105, 103, 32]⟩ ⟨#[49, 48]⟩).run Tryz.prog w = .ok (.string ⟨#[99, 111, 110, 102, 105, 103, 32, 49, 48]⟩) w := (wconcat _ _ (by decide) w).trans (congrArg (fun b => Result.ok (Value.string b) w) (by decide +kernel))
theorem w_two10 (w : World) : (Op.stringOp .add ⟨#[99, 111, 110, 102, 105, 103, 32, 49, 48]⟩ ⟨#[58, 32, 99, 111, 100, 101, 32, 49]⟩).run Tryz.prog w = .ok (.string ⟨#[99, 111, 110, 102, 105, 103, 32, 49, 48, 58, 32, 99, 111, 100, 101, 32, 49]⟩) w := (wconcat _ _ (by decide) w).trans (congrArg (fun b => Result.ok (Value.string b) w) (by decide +kernel))

set_option maxRecDepth 100000 in
set_option maxHeartbeats 8000000 in
theorem wrong_any (hfirst : FirstOK) (c : Cfg) (field : Int) (sl po pt ct : Value) (w : World) (hg : Ready w) (hl : ListsAt w c sl po pt ct) : Calls Tryz.prog 9 #[cfgV c sl po pt ct, .int .i64 field] w fun e w' => e = .returned (.bool true) ∧ Below w.heap.size w w' := by
  have HFI := Lib.hid hfirst
  have HG := Lib.hid hg
  have HL0 := Lib.hid hl
  have HT0 := Lib.hid (one_start w c sl po pt ct hl)
  clear hl hg hfirst
  go_enter Tryz.func9, Tryz.ntmps9
  unfold cfgV
  go_wp2_with fail
  generalize w.alloc (.cells #[.int .i64 c.own, .int .i64 c.master, .bool c.unsol, .int .i64 c.reply, .int .i64 c.silence, .int .i64 c.retries, .int .i64 c.offline, .int .i64 c.select, .int .i64 c.confirm, .int .i64 c.frag, .int .i64 c.r0, .int .i64 c.r1, .int .i64 c.r2, sl, po, pt, ct] 28) = w0 at *
  rw [show Value.agg #[.int .i64 c.own, .int .i64 c.master, .bool c.unsol, .int .i64 c.reply, .int .i64 c.silence, .int .i64 c.retries, .int .i64 c.offline, .int .i64 c.select, .int .i64 c.confirm, .int .i64 c.frag, .int .i64 c.r0, .int .i64 c.r1, .int .i64 c.r2, sl, po, pt, ct] = cfgV c sl po pt ct from rfl]
  refine (HFI.out _ (HG.out.on HT0.out.below)).mono ?_
  rintro e w1 ⟨rfl, hb⟩
  have HT1 := Lib.hid (HT0.out.on hb)
  clear hb HT0
  go_wp2_with (refine ld28 (by rfl) _ rfl w.heap.size rfl c sl po pt ct HT1.out.box ?_)
  refine (few_any c _ _ _ _ w1 HT1.out.lists).mono ?_
  rintro e w2 ⟨rfl, hb⟩
  have HT2 := Lib.hid (HT1.out.on hb)
  clear hb HT1
  by_cases hf : FewC c
  case neg =>
    rw [decide_eq_false hf]
    go_wp2_with fail
    refine (HFI.out _ (HG.out.on HT2.out.below)).mono ?_
    rintro e w9 ⟨rfl, hb⟩
    have HZ := Lib.hid (HT2.out.on hb)
    clear hb
    go_wp2
    go_ret
    exact ⟨rfl, HZ.out.below⟩
  rw [decide_eq_true hf]
  go_wp2_with (refine ld28 (by rfl) _ rfl w.heap.size rfl c sl po pt ct HT2.out.box ?_)
  refine (check_any c _ _ _ _ w2 HT2.out.lists hf).mono ?_
  rintro e w3 ⟨v, rfl, he, hb⟩
  have HT3 := Lib.hid (HT2.out.on hb)
  clear hb HT2
  by_cases hk0 : (checkR c).2 = 0
  case neg =>
    obtain ⟨t, y, rfl⟩ := errIs_iface hk0 he
    clear he hk0
    go_wp2_with fail
    refine (HFI.out _ (HG.out.on HT3.out.below)).mono ?_
    rintro e w9 ⟨rfl, hb⟩
    have HZ := Lib.hid (HT3.out.on hb)
    clear hb
    go_wp2
    go_ret
    exact ⟨rfl, HZ.out.below⟩
  obtain rfl := errIs_nil0 hk0 he
  clear he
  by_cases hf1 : field < 1
  case pos =>
    go_wp2_with fail
    refine (HFI.out _ (HG.out.on HT3.out.below)).mono ?_
    rintro e w9 ⟨rfl, hb⟩
    have HZ := Lib.hid (HT3.out.on hb)
    clear hb
    go_wp2
    go_ret
    exact ⟨rfl, HZ.out.below⟩
  by_cases hf10 : 10 < field
  case pos =>
    go_wp2_with fail
    refine (HFI.out _ (HG.out.on HT3.out.below)).mono ?_
    rintro e w9 ⟨rfl, hb⟩
    have HZ := Lib.hid (HT3.out.on hb)
    clear hb
    go_wp2
    go_ret
    exact ⟨rfl, HZ.out.below⟩
  have HF := Lib.hid hf
  have HOK := Lib.hid (fields_true hk0)
  have HNE := Lib.hid (show ∀ X : Cfg, (checkR X).2 = 1 → sameN c X = false from fun X hX => sameN_ne (fun h => by rw [← h, hk0] at hX; omega))
  clear hf hk0
  go_wp2_with (refine ld28 (by rfl) _ rfl w.heap.size rfl c sl po pt ct HT3.out.box ?_)
  refine (copyConfig_any c _ _ _ _ w3 HT3.out.lists HF.out).mono ?_
  rintro e w4 ⟨v1, v2, v3, v4, rfl, ho, hb⟩
  have HT4 := Lib.hid (HT3.out.on hb)
  obtain ⟨ho1, ho2, ho3, ho4⟩ := ho
  obtain ⟨u1, t1, rfl⟩ := own_slice ho1
  obtain ⟨u2, t2, rfl⟩ := own_slice ho2
  obtain ⟨u3, t3, rfl⟩ := own_slice ho3
  obtain ⟨u4, t4, rfl⟩ := own_slice ho4
  have HO4 : Hid (OwnLists w4 w3.heap.size c (.slice u1 c.slaves.length t1) (.slice u2 c.polls.length t2) (.slice u3 c.points.length t3) (.slice u4 c.ctls.length t4)) := Lib.hid ⟨ho1, ho2, ho3, ho4⟩
  clear hb HT3 ho1 ho2 ho3 ho4
  have hz0 : (w4.alloc (.cells #[.int .i64 0, .int .i64 0, .bool false, .int .i64 0, .int .i64 0, .int .i64 0, .int .i64 0, .int .i64 0, .int .i64 0, .int .i64 0, .int .i64 0, .int .i64 0, .int .i64 0, .slice none 0 0, .slice none 0 0, .slice none 0 0, .slice none 0 0] 28)).heap[w4.heap.size]? = some (.cells #[.int .i64 0, .int .i64 0, .bool false, .int .i64 0, .int .i64 0, .int .i64 0, .int .i64 0, .int .i64 0, .int .i64 0, .int .i64 0, .int .i64 0, .int .i64 0, .int .i64 0, .slice none 0 0, .slice none 0 0, .slice none 0 0, .slice none 0 0] 28 (0, 0)) := heap_alloc_new w4 _
  rename_i K0 hK0 K1 hK1
  have HK := Lib.hid hK0
  clear hK0
  go_wp2_with (refine wpList_store_row rfl 28 _ _ rfl w4.heap.size #[.int .i64 c.own, .int .i64 c.master, .bool c.unsol, .int .i64 c.reply, .int .i64 c.silence, .int .i64 c.retries, .int .i64 c.offline, .int .i64 c.select, .int .i64 c.confirm, .int .i64 c.frag, .int .i64 c.r0, .int .i64 c.r1, .int .i64 c.r2, (.slice u1 c.slaves.length t1), (.slice u2 c.polls.length t2), (.slice u3 c.points.length t3), (.slice u4 c.ctls.length t4)] rfl rfl 28 #[.int .i64 0, .int .i64 0, .bool false, .int .i64 0, .int .i64 0, .int .i64 0, .int .i64 0, .int .i64 0, .int .i64 0, .int .i64 0, .int .i64 0, .int .i64 0, .int .i64 0, .slice none 0 0, .slice none 0 0, .slice none 0 0, .slice none 0 0] hz0 (by kernel_rfl) rfl (cfg_one _ _ _ _ _ _ _ _ _ _ _ _ _) ?_)
  refine HK.out _ _ ?_
  clear HK
  have hbW : Below w4.heap.size w4 ((w4.alloc (.cells #[.int .i64 0, .int .i64 0, .bool false, .int .i64 0, .int .i64 0, .int .i64 0, .int .i64 0, .int .i64 0, .int .i64 0, .int .i64 0, .int .i64 0, .int .i64 0, .int .i64 0, .slice none 0 0, .slice none 0 0, .slice none 0 0, .slice none 0 0] 28)).setRow w4.heap.size #[.int .i64 c.own, .int .i64 c.master, .bool c.unsol, .int .i64 c.reply, .int .i64 c.silence, .int .i64 c.retries, .int .i64 c.offline, .int .i64 c.select, .int .i64 c.confirm, .int .i64 c.frag, .int .i64 c.r0, .int .i64 c.r1, .int .i64 c.r2, (.slice u1 c.slaves.length t1), (.slice u2 c.polls.length t2), (.slice u3 c.points.length t3), (.slice u4 c.ctls.length t4)]) := below_setRow (below_new w4 _) (Nat.le_refl _) _
  have HT5 := Lib.hid (HT4.out.on hbW)
  have HX5 : Hid (CfgBox ((w4.alloc (.cells #[.int .i64 0, .int .i64 0, .bool false, .int .i64 0, .int .i64 0, .int .i64 0, .int .i64 0, .int .i64 0, .int .i64 0, .int .i64 0, .int .i64 0, .int .i64 0, .int .i64 0, .slice none 0 0, .slice none 0 0, .slice none 0 0, .slice none 0 0] 28)).setRow w4.heap.size #[.int .i64 c.own, .int .i64 c.master, .bool c.unsol, .int .i64 c.reply, .int .i64 c.silence, .int .i64 c.retries, .int .i64 c.offline, .int .i64 c.select, .int .i64 c.confirm, .int .i64 c.frag, .int .i64 c.r0, .int .i64 c.r1, .int .i64 c.r2, (.slice u1 c.slaves.length t1), (.slice u2 c.polls.length t2), (.slice u3 c.points.length t3), (.slice u4 c.ctls.length t4)]) w4.heap.size c (.slice u1 c.slaves.length t1) (.slice u2 c.polls.length t2) (.slice u3 c.points.length t3) (.slice u4 c.ctls.length t4)) := Lib.hid (setRow_heap _ _ _ _ 28 (0, 0) hz0)
  have HO5 : Hid (OwnLists ((w4.alloc (.cells #[.int .i64 0, .int .i64 0, .bool false, .int .i64 0, .int .i64 0, .int .i64 0, .int .i64 0, .int .i64 0, .int .i64 0, .int .i64 0, .int .i64 0, .int .i64 0, .int .i64 0, .slice none 0 0, .slice none 0 0, .slice none 0 0, .slice none 0 0] 28)).setRow w4.heap.size #[.int .i64 c.own, .int .i64 c.master, .bool c.unsol, .int .i64 c.reply, .int .i64 c.silence, .int .i64 c.retries, .int .i64 c.offline, .int .i64 c.select, .int .i64 c.confirm, .int .i64 c.frag, .int .i64 c.r0, .int .i64 c.r1, .int .i64 c.r2, (.slice u1 c.slaves.length t1), (.slice u2 c.polls.length t2), (.slice u3 c.points.length t3), (.slice u4 c.ctls.length t4)]) w3.heap.size c (.slice u1 c.slaves.length t1) (.slice u2 c.polls.length t2) (.slice u3 c.points.length t3) (.slice u4 c.ctls.length t4)) := Lib.hid ⟨own_setRow (HO4.out.sl.alloc _) hz0 (by decide) _, own_setRow (HO4.out.po.alloc _) hz0 (by decide) _, own_setRow (HO4.out.pt.alloc _) hz0 (by decide) _, own_setRow (HO4.out.ct.alloc _) hz0 (by decide) _⟩
  have HSZ : Hid (w.heap.size < w4.heap.size) := Lib.hid (lt_heap HT4.out.box)
  clear hbW hz0 HO4 HT4
  generalize (w4.alloc (.cells #[.int .i64 0, .int .i64 0, .bool false, .int .i64 0, .int .i64 0, .int .i64 0, .int .i64 0, .int .i64 0, .int .i64 0, .int .i64 0, .int .i64 0, .int .i64 0, .int .i64 0, .slice none 0 0, .slice none 0 0, .slice none 0 0, .slice none 0 0] 28)).setRow w4.heap.size #[.int .i64 c.own, .int .i64 c.master, .bool c.unsol, .int .i64 c.reply, .int .i64 c.silence, .int .i64 c.retries, .int .i64 c.offline, .int .i64 c.select, .int .i64 c.confirm, .int .i64 c.frag, .int .i64 c.r0, .int .i64 c.r1, .int .i64 c.r2, (.slice u1 c.slaves.length t1), (.slice u2 c.polls.length t2), (.slice u3 c.points.length t3), (.slice u4 c.ctls.length t4)] = W at *
  obtain ⟨k, hk⟩ : ∃ k, k = w4.heap.size := ⟨_, rfl⟩
  rw [← hk] at HX5 HSZ ⊢
  clear hk
  have h10 : field = 1 ∨ field = 2 ∨ field = 3 ∨ field = 4 ∨ field = 5 ∨ field = 6 ∨ field = 7 ∨ field = 8 ∨ field = 9 ∨ field = 10 := by omega
  clear hf1 hf10
  rcases h10 with rfl | rfl | rfl | rfl | rfl | rfl | rfl | rfl | rfl | rfl
  · obtain ⟨X, hX⟩ : ∃ X : Cfg, X = { c with own := 65520 } := ⟨_, rfl⟩
    have s0 := cells_of HX5.out 0 _ rfl
    have f0 : W.frozen? ⟨k, 0, none⟩ = false := frozen_of_row _ _ _ _ _ HX5.out
    have HCH : Hid (checkR X = ([(sConfig, 1)], 1)) := Lib.hid (by
      rw [hX]
      refine check_field 0 (by omega) (fun j hj => by
        have h1 := HOK.out j (by omega)
        have hj' : False := by omega
        exact hj'.elim) ?_
      · simp [fieldsN, within])
    have HBX : Hid (TwoIn w w.heap.size k c X sl po pt ct (.slice u1 c.slaves.length t1) (.slice u2 c.polls.length t2) (.slice u3 c.points.length t3) (.slice u4 c.ctls.length t4) (W.setCell ⟨k, 0, none⟩ (.int .i64 65520))) := Lib.hid (by
      have hbb : Below w.heap.size w (W.setCell ⟨k, 0, none⟩ (.int .i64 65520)) := HT5.out.below.trans (below_set _ _ _ _ _ (by have := HSZ.out; omega))
      have hown : OwnLists (W.setCell ⟨k, 0, none⟩ (.int .i64 65520)) w3.heap.size X (.slice u1 c.slaves.length t1) (.slice u2 c.polls.length t2) (.slice u3 c.points.length t3) (.slice u4 c.ctls.length t4) := by rw [hX]; exact ⟨own_set HO5.out.sl HX5.out (by decide) _, own_set HO5.out.po HX5.out (by decide) _, own_set HO5.out.pt HX5.out (by decide) _, own_set HO5.out.ct HX5.out (by decide) _⟩
      exact ⟨hbb, box_set HT5.out.box (by have := HSZ.out; omega), by rw [hX]; exact heap_set _ _ _ _ _ _ _ HX5.out, HL0.out.on hbb, hown.lists⟩)
    have HFX : Hid (FewC X) := Lib.hid (by rw [hX]; exact HF.out)
    have hB2 := HBX.out.b2
    clear hX HT5 HO5 HX5
    go_wp2_with (refine ld28 (by rfl) _ rfl k rfl X (.slice u1 c.slaves.length t1) (.slice u2 c.polls.length t2) (.slice u3 c.points.length t3) (.slice u4 c.ctls.length t4) hB2 ?_)
    clear s0 f0 hB2
    generalize (W.setCell ⟨k, 0, none⟩ (.int .i64 65520)) = W1 at *
    refine (print_no X _ _ _ _ W1 HBX.out.l2 HFX.out (by rw [HCH.out]; decide)).mono ?_
    rintro e z1 ⟨v, rfl, he, hb⟩
    rw [HCH.out] at he
    have HE := Lib.hid (err_chain he rfl)
    obtain ⟨tv, yv, rfl⟩ := errIs_iface (by decide) he
    have HR1 := Lib.hid (HBX.out.on hb)
    clear he hb HBX
    go_wp2_with fail
    refine (HFI.out _ (HG.out.on HR1.out.below)).mono ?_
    rintro e z2 ⟨rfl, hb⟩
    have HE2 := Lib.hid (Chain.on hb HE.out)
    have HR2 := Lib.hid (HR1.out.on hb)
    clear hb HE HR1
    go_wp2_with (first | (refine ld28 (by rfl) _ rfl w.heap.size rfl c sl po pt ct HR2.out.b1 ?_) | (refine ld28 (by rfl) _ rfl k rfl X (.slice u1 c.slaves.length t1) (.slice u2 c.polls.length t2) (.slice u3 c.points.length t3) (.slice u4 c.ctls.length t4) HR2.out.b2 ?_))
    refine (check_any X _ _ _ _ z2 HR2.out.l2 HFX.out).mono ?_
    rintro e z3 ⟨v3, rfl, he, hb⟩
    rw [HCH.out] at he
    have HD3 := Lib.hid (err_chain he rfl)
    obtain ⟨tw, yw, rfl⟩ := errIs_iface (by decide) he
    have HE3 := Lib.hid (Chain.on hb HE2.out)
    have HR3 := Lib.hid (HR2.out.on hb)
    clear he hb HE2 HR2
    go_wp2_with fail
    refine (of_code _ _ 1 z3 (HG.out.on HR3.out.below).1 HD3.out).mono ?_
    rintro e z4 ⟨rfl, hb⟩
    have HE4 := Lib.hid (Chain.on hb HE3.out)
    have HR4 := Lib.hid (HR3.out.on hb)
    clear hb HE3 HR3 HD3
    go_wp2_with (first | (refine ld28 (by rfl) _ rfl w.heap.size rfl c sl po pt ct HR4.out.b1 ?_) | (refine ld28 (by rfl) _ rfl k rfl X (.slice u1 c.slaves.length t1) (.slice u2 c.polls.length t2) (.slice u3 c.points.length t3) (.slice u4 c.ctls.length t4) HR4.out.b2 ?_))
    refine (check_any X _ _ _ _ z4 HR4.out.l2 HFX.out).mono ?_
    rintro e z5 ⟨v5, rfl, he, hb⟩
    rw [HCH.out] at he
    have HD5 := Lib.hid (err_chain he rfl)
    obtain ⟨tx, yx, rfl⟩ := errIs_iface (by decide) he
    have HE5 := Lib.hid (Chain.on hb HE4.out)
    have HR5 := Lib.hid (HR4.out.on hb)
    clear he hb HE4 HR4
    go_wp2_with fail
    refine (text_any _ _ 1 (by unfold IsInt; omega) z5 (HG.out.on HR5.out.below) HD5.out w_short1).mono ?_
    rintro e z6 ⟨rfl, hb⟩
    rw [w_text1]
    have HE6 := Lib.hid (Chain.on hb HE5.out)
    have HR6 := Lib.hid (HR5.out.on hb)
    clear hb HE5 HR5 HD5
    go_wp2_with fail
    refine (w_dec1 _).mono ?_
    rintro e z7 ⟨rfl, hb⟩
    have HE7 := Lib.hid (Chain.on hb HE6.out)
    have HR7 := Lib.hid (HR6.out.on hb)
    clear hb HE6 HR6
    have c1 := w_one1
    have c2 := w_two1
    go_wp2_with fail
    clear c1 c2
    refine (of_code _ _ 1 z7 (HG.out.on HR7.out.below).1 HE7.out).mono ?_
    rintro e z8 ⟨rfl, hb⟩
    have HR8 := Lib.hid (HR7.out.on hb)
    clear hb HE7 HR7
    go_wp2_with (first | (refine ld28 (by rfl) _ rfl w.heap.size rfl c sl po pt ct HR8.out.b1 ?_) | (refine ld28 (by rfl) _ rfl k rfl X (.slice u1 c.slaves.length t1) (.slice u2 c.polls.length t2) (.slice u3 c.points.length t3) (.slice u4 c.ctls.length t4) HR8.out.b2 ?_))
    refine (same_any c X _ _ _ _ _ _ _ _ z8 HR8.out.l1 HR8.out.l2 HF.out.some HFX.out.some).mono ?_
    rintro e z9 ⟨rfl, hb⟩
    rw [HNE.out X (by rw [HCH.out])]
    have HR9 := Lib.hid (HR8.out.on hb)
    clear hb HR8
    go_wp2
    go_ret
    exact ⟨rfl, HR9.out.below⟩
  · obtain ⟨X, hX⟩ : ∃ X : Cfg, X = { c with master := c.own } := ⟨_, rfl⟩
    have s0 := cells_of HX5.out 1 _ rfl
    have f0 : W.frozen? ⟨k, 1, none⟩ = false := frozen_of_row _ _ _ _ _ HX5.out
    have s1 := cells_of HX5.out 0 _ rfl
    have HCH : Hid (checkR X = ([(sConfig, 2)], 1)) := Lib.hid (by
      rw [hX]
      refine check_field 1 (by omega) (fun j hj => by
        have h1 := HOK.out j (by omega)
        have hj' : j = 0 := by omega
        subst hj'
        exact h1) ?_
      · simp [fieldsN])
    have HBX : Hid (TwoIn w w.heap.size k c X sl po pt ct (.slice u1 c.slaves.length t1) (.slice u2 c.polls.length t2) (.slice u3 c.points.length t3) (.slice u4 c.ctls.length t4) (W.setCell ⟨k, 1, none⟩ (.int .i64 c.own))) := Lib.hid (by
      have hbb : Below w.heap.size w (W.setCell ⟨k, 1, none⟩ (.int .i64 c.own)) := HT5.out.below.trans (below_set _ _ _ _ _ (by have := HSZ.out; omega))
      have hown : OwnLists (W.setCell ⟨k, 1, none⟩ (.int .i64 c.own)) w3.heap.size X (.slice u1 c.slaves.length t1) (.slice u2 c.polls.length t2) (.slice u3 c.points.length t3) (.slice u4 c.ctls.length t4) := by rw [hX]; exact ⟨own_set HO5.out.sl HX5.out (by decide) _, own_set HO5.out.po HX5.out (by decide) _, own_set HO5.out.pt HX5.out (by decide) _, own_set HO5.out.ct HX5.out (by decide) _⟩
      exact ⟨hbb, box_set HT5.out.box (by have := HSZ.out; omega), by rw [hX]; exact heap_set _ _ _ _ _ _ _ HX5.out, HL0.out.on hbb, hown.lists⟩)
    have HFX : Hid (FewC X) := Lib.hid (by rw [hX]; exact HF.out)
    have hB2 := HBX.out.b2
    clear hX HT5 HO5 HX5
    go_wp2_with (refine ld28 (by rfl) _ rfl k rfl X (.slice u1 c.slaves.length t1) (.slice u2 c.polls.length t2) (.slice u3 c.points.length t3) (.slice u4 c.ctls.length t4) hB2 ?_)
    clear s0 f0 s1 hB2
    generalize (W.setCell ⟨k, 1, none⟩ (.int .i64 c.own)) = W1 at *
    refine (print_no X _ _ _ _ W1 HBX.out.l2 HFX.out (by rw [HCH.out]; decide)).mono ?_
    rintro e z1 ⟨v, rfl, he, hb⟩
    rw [HCH.out] at he
    have HE := Lib.hid (err_chain he rfl)
    obtain ⟨tv, yv, rfl⟩ := errIs_iface (by decide) he
    have HR1 := Lib.hid (HBX.out.on hb)
    clear he hb HBX
    go_wp2_with fail
    refine (HFI.out _ (HG.out.on HR1.out.below)).mono ?_
    rintro e z2 ⟨rfl, hb⟩
    have HE2 := Lib.hid (Chain.on hb HE.out)
    have HR2 := Lib.hid (HR1.out.on hb)
    clear hb HE HR1
    go_wp2_with (first | (refine ld28 (by rfl) _ rfl w.heap.size rfl c sl po pt ct HR2.out.b1 ?_) | (refine ld28 (by rfl) _ rfl k rfl X (.slice u1 c.slaves.length t1) (.slice u2 c.polls.length t2) (.slice u3 c.points.length t3) (.slice u4 c.ctls.length t4) HR2.out.b2 ?_))
    refine (check_any X _ _ _ _ z2 HR2.out.l2 HFX.out).mono ?_
    rintro e z3 ⟨v3, rfl, he, hb⟩
    rw [HCH.out] at he
    have HD3 := Lib.hid (err_chain he rfl)
    obtain ⟨tw, yw, rfl⟩ := errIs_iface (by decide) he
    have HE3 := Lib.hid (Chain.on hb HE2.out)
    have HR3 := Lib.hid (HR2.out.on hb)
    clear he hb HE2 HR2
    go_wp2_with fail
    refine (of_code _ _ 1 z3 (HG.out.on HR3.out.below).1 HD3.out).mono ?_
    rintro e z4 ⟨rfl, hb⟩
    have HE4 := Lib.hid (Chain.on hb HE3.out)
    have HR4 := Lib.hid (HR3.out.on hb)
    clear hb HE3 HR3 HD3
    go_wp2_with (first | (refine ld28 (by rfl) _ rfl w.heap.size rfl c sl po pt ct HR4.out.b1 ?_) | (refine ld28 (by rfl) _ rfl k rfl X (.slice u1 c.slaves.length t1) (.slice u2 c.polls.length t2) (.slice u3 c.points.length t3) (.slice u4 c.ctls.length t4) HR4.out.b2 ?_))
    refine (check_any X _ _ _ _ z4 HR4.out.l2 HFX.out).mono ?_
    rintro e z5 ⟨v5, rfl, he, hb⟩
    rw [HCH.out] at he
    have HD5 := Lib.hid (err_chain he rfl)
    obtain ⟨tx, yx, rfl⟩ := errIs_iface (by decide) he
    have HE5 := Lib.hid (Chain.on hb HE4.out)
    have HR5 := Lib.hid (HR4.out.on hb)
    clear he hb HE4 HR4
    go_wp2_with fail
    refine (text_any _ _ 1 (by unfold IsInt; omega) z5 (HG.out.on HR5.out.below) HD5.out w_short2).mono ?_
    rintro e z6 ⟨rfl, hb⟩
    rw [w_text2]
    have HE6 := Lib.hid (Chain.on hb HE5.out)
    have HR6 := Lib.hid (HR5.out.on hb)
    clear hb HE5 HR5 HD5
    go_wp2_with fail
    refine (w_dec2 _).mono ?_
    rintro e z7 ⟨rfl, hb⟩
    have HE7 := Lib.hid (Chain.on hb HE6.out)
    have HR7 := Lib.hid (HR6.out.on hb)
    clear hb HE6 HR6
    have c1 := w_one2
    have c2 := w_two2
    go_wp2_with fail
    clear c1 c2
    refine (of_code _ _ 1 z7 (HG.out.on HR7.out.below).1 HE7.out).mono ?_
    rintro e z8 ⟨rfl, hb⟩
    have HR8 := Lib.hid (HR7.out.on hb)
    clear hb HE7 HR7
    go_wp2_with (first | (refine ld28 (by rfl) _ rfl w.heap.size rfl c sl po pt ct HR8.out.b1 ?_) | (refine ld28 (by rfl) _ rfl k rfl X (.slice u1 c.slaves.length t1) (.slice u2 c.polls.length t2) (.slice u3 c.points.length t3) (.slice u4 c.ctls.length t4) HR8.out.b2 ?_))
    refine (same_any c X _ _ _ _ _ _ _ _ z8 HR8.out.l1 HR8.out.l2 HF.out.some HFX.out.some).mono ?_
    rintro e z9 ⟨rfl, hb⟩
    rw [HNE.out X (by rw [HCH.out])]
    have HR9 := Lib.hid (HR8.out.on hb)
    clear hb HR8
    go_wp2
    go_ret
    exact ⟨rfl, HR9.out.below⟩
  · obtain ⟨X, hX⟩ : ∃ X : Cfg, X = { c with reply := 0 } := ⟨_, rfl⟩
    have s0 := cells_of HX5.out 3 _ rfl
    have f0 : W.frozen? ⟨k, 3, none⟩ = false := frozen_of_row _ _ _ _ _ HX5.out
    have HCH : Hid (checkR X = ([(sConfig, 3)], 1)) := Lib.hid (by
      rw [hX]
      refine check_field 2 (by omega) (fun j hj => by
        have h1 := HOK.out j (by omega)
        have hj' : j = 0 ∨ j = 1 := by omega
        rcases hj' with rfl | rfl <;> exact h1) ?_
      · simp [fieldsN, within])
    have HBX : Hid (TwoIn w w.heap.size k c X sl po pt ct (.slice u1 c.slaves.length t1) (.slice u2 c.polls.length t2) (.slice u3 c.points.length t3) (.slice u4 c.ctls.length t4) (W.setCell ⟨k, 3, none⟩ (.int .i64 0))) := Lib.hid (by
      have hbb : Below w.heap.size w (W.setCell ⟨k, 3, none⟩ (.int .i64 0)) := HT5.out.below.trans (below_set _ _ _ _ _ (by have := HSZ.out; omega))
      have hown : OwnLists (W.setCell ⟨k, 3, none⟩ (.int .i64 0)) w3.heap.size X (.slice u1 c.slaves.length t1) (.slice u2 c.polls.length t2) (.slice u3 c.points.length t3) (.slice u4 c.ctls.length t4) := by rw [hX]; exact ⟨own_set HO5.out.sl HX5.out (by decide) _, own_set HO5.out.po HX5.out (by decide) _, own_set HO5.out.pt HX5.out (by decide) _, own_set HO5.out.ct HX5.out (by decide) _⟩
      exact ⟨hbb, box_set HT5.out.box (by have := HSZ.out; omega), by rw [hX]; exact heap_set _ _ _ _ _ _ _ HX5.out, HL0.out.on hbb, hown.lists⟩)
    have HFX : Hid (FewC X) := Lib.hid (by rw [hX]; exact HF.out)
    have hB2 := HBX.out.b2
    clear hX HT5 HO5 HX5
    go_wp2_with (refine ld28 (by rfl) _ rfl k rfl X (.slice u1 c.slaves.length t1) (.slice u2 c.polls.length t2) (.slice u3 c.points.length t3) (.slice u4 c.ctls.length t4) hB2 ?_)
    clear s0 f0 hB2
    generalize (W.setCell ⟨k, 3, none⟩ (.int .i64 0)) = W1 at *
    refine (print_no X _ _ _ _ W1 HBX.out.l2 HFX.out (by rw [HCH.out]; decide)).mono ?_
    rintro e z1 ⟨v, rfl, he, hb⟩
    rw [HCH.out] at he
    have HE := Lib.hid (err_chain he rfl)
    obtain ⟨tv, yv, rfl⟩ := errIs_iface (by decide) he
    have HR1 := Lib.hid (HBX.out.on hb)
    clear he hb HBX
    go_wp2_with fail
    refine (HFI.out _ (HG.out.on HR1.out.below)).mono ?_
    rintro e z2 ⟨rfl, hb⟩
    have HE2 := Lib.hid (Chain.on hb HE.out)
    have HR2 := Lib.hid (HR1.out.on hb)
    clear hb HE HR1
    go_wp2_with (first | (refine ld28 (by rfl) _ rfl w.heap.size rfl c sl po pt ct HR2.out.b1 ?_) | (refine ld28 (by rfl) _ rfl k rfl X (.slice u1 c.slaves.length t1) (.slice u2 c.polls.length t2) (.slice u3 c.points.length t3) (.slice u4 c.ctls.length t4) HR2.out.b2 ?_))
    refine (check_any X _ _ _ _ z2 HR2.out.l2 HFX.out).mono ?_
    rintro e z3 ⟨v3, rfl, he, hb⟩
    rw [HCH.out] at he
    have HD3 := Lib.hid (err_chain he rfl)
    obtain ⟨tw, yw, rfl⟩ := errIs_iface (by decide) he
    have HE3 := Lib.hid (Chain.on hb HE2.out)
    have HR3 := Lib.hid (HR2.out.on hb)
    clear he hb HE2 HR2
    go_wp2_with fail
    refine (of_code _ _ 1 z3 (HG.out.on HR3.out.below).1 HD3.out).mono ?_
    rintro e z4 ⟨rfl, hb⟩
    have HE4 := Lib.hid (Chain.on hb HE3.out)
    have HR4 := Lib.hid (HR3.out.on hb)
    clear hb HE3 HR3 HD3
    go_wp2_with (first | (refine ld28 (by rfl) _ rfl w.heap.size rfl c sl po pt ct HR4.out.b1 ?_) | (refine ld28 (by rfl) _ rfl k rfl X (.slice u1 c.slaves.length t1) (.slice u2 c.polls.length t2) (.slice u3 c.points.length t3) (.slice u4 c.ctls.length t4) HR4.out.b2 ?_))
    refine (check_any X _ _ _ _ z4 HR4.out.l2 HFX.out).mono ?_
    rintro e z5 ⟨v5, rfl, he, hb⟩
    rw [HCH.out] at he
    have HD5 := Lib.hid (err_chain he rfl)
    obtain ⟨tx, yx, rfl⟩ := errIs_iface (by decide) he
    have HE5 := Lib.hid (Chain.on hb HE4.out)
    have HR5 := Lib.hid (HR4.out.on hb)
    clear he hb HE4 HR4
    go_wp2_with fail
    refine (text_any _ _ 1 (by unfold IsInt; omega) z5 (HG.out.on HR5.out.below) HD5.out w_short3).mono ?_
    rintro e z6 ⟨rfl, hb⟩
    rw [w_text3]
    have HE6 := Lib.hid (Chain.on hb HE5.out)
    have HR6 := Lib.hid (HR5.out.on hb)
    clear hb HE5 HR5 HD5
    go_wp2_with fail
    refine (w_dec3 _).mono ?_
    rintro e z7 ⟨rfl, hb⟩
    have HE7 := Lib.hid (Chain.on hb HE6.out)
    have HR7 := Lib.hid (HR6.out.on hb)
    clear hb HE6 HR6
    have c1 := w_one3
    have c2 := w_two3
    go_wp2_with fail
    clear c1 c2
    refine (of_code _ _ 1 z7 (HG.out.on HR7.out.below).1 HE7.out).mono ?_
    rintro e z8 ⟨rfl, hb⟩
    have HR8 := Lib.hid (HR7.out.on hb)
    clear hb HE7 HR7
    go_wp2_with (first | (refine ld28 (by rfl) _ rfl w.heap.size rfl c sl po pt ct HR8.out.b1 ?_) | (refine ld28 (by rfl) _ rfl k rfl X (.slice u1 c.slaves.length t1) (.slice u2 c.polls.length t2) (.slice u3 c.points.length t3) (.slice u4 c.ctls.length t4) HR8.out.b2 ?_))
    refine (same_any c X _ _ _ _ _ _ _ _ z8 HR8.out.l1 HR8.out.l2 HF.out.some HFX.out.some).mono ?_
    rintro e z9 ⟨rfl, hb⟩
    rw [HNE.out X (by rw [HCH.out])]
    have HR9 := Lib.hid (HR8.out.on hb)
    clear hb HR8
    go_wp2
    go_ret
    exact ⟨rfl, HR9.out.below⟩
  · obtain ⟨X, hX⟩ : ∃ X : Cfg, X = { c with silence := wrap64 (c.reply + 1) } := ⟨_, rfl⟩
    have s0 := cells_of HX5.out 4 _ rfl
    have f0 : W.frozen? ⟨k, 4, none⟩ = false := frozen_of_row _ _ _ _ _ HX5.out
    have s1 := cells_of HX5.out 3 _ rfl
    have HCH : Hid (checkR X = ([(sConfig, 4)], 1)) := Lib.hid (by
      rw [hX]
      refine check_field 3 (by omega) (fun j hj => by
        have h1 := HOK.out j (by omega)
        have hj' : j = 0 ∨ j = 1 ∨ j = 2 := by omega
        rcases hj' with rfl | rfl | rfl <;> exact h1) ?_
      · have h2 := HOK.out 2 (by omega); simp only [fieldsN, within, Bool.and_eq_true, decide_eq_true_eq] at h2; have h3 : wrap64 (c.reply + 1) = c.reply + 1 := by unfold wrap64; omega
        rw [h3]; simp [fieldsN, within]; omega)
    have HBX : Hid (TwoIn w w.heap.size k c X sl po pt ct (.slice u1 c.slaves.length t1) (.slice u2 c.polls.length t2) (.slice u3 c.points.length t3) (.slice u4 c.ctls.length t4) (W.setCell ⟨k, 4, none⟩ (.int .i64 (wrap64 (c.reply + 1))))) := Lib.hid (by
      have hbb : Below w.heap.size w (W.setCell ⟨k, 4, none⟩ (.int .i64 (wrap64 (c.reply + 1)))) := HT5.out.below.trans (below_set _ _ _ _ _ (by have := HSZ.out; omega))
      have hown : OwnLists (W.setCell ⟨k, 4, none⟩ (.int .i64 (wrap64 (c.reply + 1)))) w3.heap.size X (.slice u1 c.slaves.length t1) (.slice u2 c.polls.length t2) (.slice u3 c.points.length t3) (.slice u4 c.ctls.length t4) := by rw [hX]; exact ⟨own_set HO5.out.sl HX5.out (by decide) _, own_set HO5.out.po HX5.out (by decide) _, own_set HO5.out.pt HX5.out (by decide) _, own_set HO5.out.ct HX5.out (by decide) _⟩
      exact ⟨hbb, box_set HT5.out.box (by have := HSZ.out; omega), by rw [hX]; exact heap_set _ _ _ _ _ _ _ HX5.out, HL0.out.on hbb, hown.lists⟩)
    have HFX : Hid (FewC X) := Lib.hid (by rw [hX]; exact HF.out)
    have hB2 := HBX.out.b2
    clear hX HT5 HO5 HX5
    go_wp2_with (refine ld28 (by rfl) _ rfl k rfl X (.slice u1 c.slaves.length t1) (.slice u2 c.polls.length t2) (.slice u3 c.points.length t3) (.slice u4 c.ctls.length t4) hB2 ?_)
    clear s0 f0 s1 hB2
    generalize (W.setCell ⟨k, 4, none⟩ (.int .i64 (wrap64 (c.reply + 1)))) = W1 at *
    refine (print_no X _ _ _ _ W1 HBX.out.l2 HFX.out (by rw [HCH.out]; decide)).mono ?_
    rintro e z1 ⟨v, rfl, he, hb⟩
    rw [HCH.out] at he
    have HE := Lib.hid (err_chain he rfl)
    obtain ⟨tv, yv, rfl⟩ := errIs_iface (by decide) he
    have HR1 := Lib.hid (HBX.out.on hb)
    clear he hb HBX
    go_wp2_with fail
    refine (HFI.out _ (HG.out.on HR1.out.below)).mono ?_
    rintro e z2 ⟨rfl, hb⟩
    have HE2 := Lib.hid (Chain.on hb HE.out)
    have HR2 := Lib.hid (HR1.out.on hb)
    clear hb HE HR1
    go_wp2_with (first | (refine ld28 (by rfl) _ rfl w.heap.size rfl c sl po pt ct HR2.out.b1 ?_) | (refine ld28 (by rfl) _ rfl k rfl X (.slice u1 c.slaves.length t1) (.slice u2 c.polls.length t2) (.slice u3 c.points.length t3) (.slice u4 c.ctls.length t4) HR2.out.b2 ?_))
    refine (check_any X _ _ _ _ z2 HR2.out.l2 HFX.out).mono ?_
    rintro e z3 ⟨v3, rfl, he, hb⟩
    rw [HCH.out] at he
    have HD3 := Lib.hid (err_chain he rfl)
    obtain ⟨tw, yw, rfl⟩ := errIs_iface (by decide) he
    have HE3 := Lib.hid (Chain.on hb HE2.out)
    have HR3 := Lib.hid (HR2.out.on hb)
    clear he hb HE2 HR2
    go_wp2_with fail
    refine (of_code _ _ 1 z3 (HG.out.on HR3.out.below).1 HD3.out).mono ?_
    rintro e z4 ⟨rfl, hb⟩
    have HE4 := Lib.hid (Chain.on hb HE3.out)
    have HR4 := Lib.hid (HR3.out.on hb)
    clear hb HE3 HR3 HD3
    go_wp2_with (first | (refine ld28 (by rfl) _ rfl w.heap.size rfl c sl po pt ct HR4.out.b1 ?_) | (refine ld28 (by rfl) _ rfl k rfl X (.slice u1 c.slaves.length t1) (.slice u2 c.polls.length t2) (.slice u3 c.points.length t3) (.slice u4 c.ctls.length t4) HR4.out.b2 ?_))
    refine (check_any X _ _ _ _ z4 HR4.out.l2 HFX.out).mono ?_
    rintro e z5 ⟨v5, rfl, he, hb⟩
    rw [HCH.out] at he
    have HD5 := Lib.hid (err_chain he rfl)
    obtain ⟨tx, yx, rfl⟩ := errIs_iface (by decide) he
    have HE5 := Lib.hid (Chain.on hb HE4.out)
    have HR5 := Lib.hid (HR4.out.on hb)
    clear he hb HE4 HR4
    go_wp2_with fail
    refine (text_any _ _ 1 (by unfold IsInt; omega) z5 (HG.out.on HR5.out.below) HD5.out w_short4).mono ?_
    rintro e z6 ⟨rfl, hb⟩
    rw [w_text4]
    have HE6 := Lib.hid (Chain.on hb HE5.out)
    have HR6 := Lib.hid (HR5.out.on hb)
    clear hb HE5 HR5 HD5
    go_wp2_with fail
    refine (w_dec4 _).mono ?_
    rintro e z7 ⟨rfl, hb⟩
    have HE7 := Lib.hid (Chain.on hb HE6.out)
    have HR7 := Lib.hid (HR6.out.on hb)
    clear hb HE6 HR6
    have c1 := w_one4
    have c2 := w_two4
    go_wp2_with fail
    clear c1 c2
    refine (of_code _ _ 1 z7 (HG.out.on HR7.out.below).1 HE7.out).mono ?_
    rintro e z8 ⟨rfl, hb⟩
    have HR8 := Lib.hid (HR7.out.on hb)
    clear hb HE7 HR7
    go_wp2_with (first | (refine ld28 (by rfl) _ rfl w.heap.size rfl c sl po pt ct HR8.out.b1 ?_) | (refine ld28 (by rfl) _ rfl k rfl X (.slice u1 c.slaves.length t1) (.slice u2 c.polls.length t2) (.slice u3 c.points.length t3) (.slice u4 c.ctls.length t4) HR8.out.b2 ?_))
    refine (same_any c X _ _ _ _ _ _ _ _ z8 HR8.out.l1 HR8.out.l2 HF.out.some HFX.out.some).mono ?_
    rintro e z9 ⟨rfl, hb⟩
    rw [HNE.out X (by rw [HCH.out])]
    have HR9 := Lib.hid (HR8.out.on hb)
    clear hb HR8
    go_wp2
    go_ret
    exact ⟨rfl, HR9.out.below⟩
  · obtain ⟨X, hX⟩ : ∃ X : Cfg, X = { c with retries := 6 } := ⟨_, rfl⟩
    have s0 := cells_of HX5.out 5 _ rfl
    have f0 : W.frozen? ⟨k, 5, none⟩ = false := frozen_of_row _ _ _ _ _ HX5.out
    have HCH : Hid (checkR X = ([(sConfig, 5)], 1)) := Lib.hid (by
      rw [hX]
      refine check_field 4 (by omega) (fun j hj => by
        have h1 := HOK.out j (by omega)
        have hj' : j = 0 ∨ j = 1 ∨ j = 2 ∨ j = 3 := by omega
        rcases hj' with rfl | rfl | rfl | rfl <;> exact h1) ?_
      · simp [fieldsN, within])
    have HBX : Hid (TwoIn w w.heap.size k c X sl po pt ct (.slice u1 c.slaves.length t1) (.slice u2 c.polls.length t2) (.slice u3 c.points.length t3) (.slice u4 c.ctls.length t4) (W.setCell ⟨k, 5, none⟩ (.int .i64 6))) := Lib.hid (by
      have hbb : Below w.heap.size w (W.setCell ⟨k, 5, none⟩ (.int .i64 6)) := HT5.out.below.trans (below_set _ _ _ _ _ (by have := HSZ.out; omega))
      have hown : OwnLists (W.setCell ⟨k, 5, none⟩ (.int .i64 6)) w3.heap.size X (.slice u1 c.slaves.length t1) (.slice u2 c.polls.length t2) (.slice u3 c.points.length t3) (.slice u4 c.ctls.length t4) := by rw [hX]; exact ⟨own_set HO5.out.sl HX5.out (by decide) _, own_set HO5.out.po HX5.out (by decide) _, own_set HO5.out.pt HX5.out (by decide) _, own_set HO5.out.ct HX5.out (by decide) _⟩
      exact ⟨hbb, box_set HT5.out.box (by have := HSZ.out; omega), by rw [hX]; exact heap_set _ _ _ _ _ _ _ HX5.out, HL0.out.on hbb, hown.lists⟩)
    have HFX : Hid (FewC X) := Lib.hid (by rw [hX]; exact HF.out)
    have hB2 := HBX.out.b2
    clear hX HT5 HO5 HX5
    go_wp2_with (refine ld28 (by rfl) _ rfl k rfl X (.slice u1 c.slaves.length t1) (.slice u2 c.polls.length t2) (.slice u3 c.points.length t3) (.slice u4 c.ctls.length t4) hB2 ?_)
    clear s0 f0 hB2
    generalize (W.setCell ⟨k, 5, none⟩ (.int .i64 6)) = W1 at *
    refine (print_no X _ _ _ _ W1 HBX.out.l2 HFX.out (by rw [HCH.out]; decide)).mono ?_
    rintro e z1 ⟨v, rfl, he, hb⟩
    rw [HCH.out] at he
    have HE := Lib.hid (err_chain he rfl)
    obtain ⟨tv, yv, rfl⟩ := errIs_iface (by decide) he
    have HR1 := Lib.hid (HBX.out.on hb)
    clear he hb HBX
    go_wp2_with fail
    refine (HFI.out _ (HG.out.on HR1.out.below)).mono ?_
    rintro e z2 ⟨rfl, hb⟩
    have HE2 := Lib.hid (Chain.on hb HE.out)
    have HR2 := Lib.hid (HR1.out.on hb)
    clear hb HE HR1
    go_wp2_with (first | (refine ld28 (by rfl) _ rfl w.heap.size rfl c sl po pt ct HR2.out.b1 ?_) | (refine ld28 (by rfl) _ rfl k rfl X (.slice u1 c.slaves.length t1) (.slice u2 c.polls.length t2) (.slice u3 c.points.length t3) (.slice u4 c.ctls.length t4) HR2.out.b2 ?_))
    refine (check_any X _ _ _ _ z2 HR2.out.l2 HFX.out).mono ?_
    rintro e z3 ⟨v3, rfl, he, hb⟩
    rw [HCH.out] at he
    have HD3 := Lib.hid (err_chain he rfl)
    obtain ⟨tw, yw, rfl⟩ := errIs_iface (by decide) he
    have HE3 := Lib.hid (Chain.on hb HE2.out)
    have HR3 := Lib.hid (HR2.out.on hb)
    clear he hb HE2 HR2
    go_wp2_with fail
    refine (of_code _ _ 1 z3 (HG.out.on HR3.out.below).1 HD3.out).mono ?_
    rintro e z4 ⟨rfl, hb⟩
    have HE4 := Lib.hid (Chain.on hb HE3.out)
    have HR4 := Lib.hid (HR3.out.on hb)
    clear hb HE3 HR3 HD3
    go_wp2_with (first | (refine ld28 (by rfl) _ rfl w.heap.size rfl c sl po pt ct HR4.out.b1 ?_) | (refine ld28 (by rfl) _ rfl k rfl X (.slice u1 c.slaves.length t1) (.slice u2 c.polls.length t2) (.slice u3 c.points.length t3) (.slice u4 c.ctls.length t4) HR4.out.b2 ?_))
    refine (check_any X _ _ _ _ z4 HR4.out.l2 HFX.out).mono ?_
    rintro e z5 ⟨v5, rfl, he, hb⟩
    rw [HCH.out] at he
    have HD5 := Lib.hid (err_chain he rfl)
    obtain ⟨tx, yx, rfl⟩ := errIs_iface (by decide) he
    have HE5 := Lib.hid (Chain.on hb HE4.out)
    have HR5 := Lib.hid (HR4.out.on hb)
    clear he hb HE4 HR4
    go_wp2_with fail
    refine (text_any _ _ 1 (by unfold IsInt; omega) z5 (HG.out.on HR5.out.below) HD5.out w_short5).mono ?_
    rintro e z6 ⟨rfl, hb⟩
    rw [w_text5]
    have HE6 := Lib.hid (Chain.on hb HE5.out)
    have HR6 := Lib.hid (HR5.out.on hb)
    clear hb HE5 HR5 HD5
    go_wp2_with fail
    refine (w_dec5 _).mono ?_
    rintro e z7 ⟨rfl, hb⟩
    have HE7 := Lib.hid (Chain.on hb HE6.out)
    have HR7 := Lib.hid (HR6.out.on hb)
    clear hb HE6 HR6
    have c1 := w_one5
    have c2 := w_two5
    go_wp2_with fail
    clear c1 c2
    refine (of_code _ _ 1 z7 (HG.out.on HR7.out.below).1 HE7.out).mono ?_
    rintro e z8 ⟨rfl, hb⟩
    have HR8 := Lib.hid (HR7.out.on hb)
    clear hb HE7 HR7
    go_wp2_with (first | (refine ld28 (by rfl) _ rfl w.heap.size rfl c sl po pt ct HR8.out.b1 ?_) | (refine ld28 (by rfl) _ rfl k rfl X (.slice u1 c.slaves.length t1) (.slice u2 c.polls.length t2) (.slice u3 c.points.length t3) (.slice u4 c.ctls.length t4) HR8.out.b2 ?_))
    refine (same_any c X _ _ _ _ _ _ _ _ z8 HR8.out.l1 HR8.out.l2 HF.out.some HFX.out.some).mono ?_
    rintro e z9 ⟨rfl, hb⟩
    rw [HNE.out X (by rw [HCH.out])]
    have HR9 := Lib.hid (HR8.out.on hb)
    clear hb HR8
    go_wp2
    go_ret
    exact ⟨rfl, HR9.out.below⟩
  · obtain ⟨X, hX⟩ : ∃ X : Cfg, X = { c with offline := 0 } := ⟨_, rfl⟩
    have s0 := cells_of HX5.out 6 _ rfl
    have f0 : W.frozen? ⟨k, 6, none⟩ = false := frozen_of_row _ _ _ _ _ HX5.out
    have HCH : Hid (checkR X = ([(sConfig, 6)], 1)) := Lib.hid (by
      rw [hX]
      refine check_field 5 (by omega) (fun j hj => by
        have h1 := HOK.out j (by omega)
        have hj' : j = 0 ∨ j = 1 ∨ j = 2 ∨ j = 3 ∨ j = 4 := by omega
        rcases hj' with rfl | rfl | rfl | rfl | rfl <;> exact h1) ?_
      · simp [fieldsN, within])
    have HBX : Hid (TwoIn w w.heap.size k c X sl po pt ct (.slice u1 c.slaves.length t1) (.slice u2 c.polls.length t2) (.slice u3 c.points.length t3) (.slice u4 c.ctls.length t4) (W.setCell ⟨k, 6, none⟩ (.int .i64 0))) := Lib.hid (by
      have hbb : Below w.heap.size w (W.setCell ⟨k, 6, none⟩ (.int .i64 0)) := HT5.out.below.trans (below_set _ _ _ _ _ (by have := HSZ.out; omega))
      have hown : OwnLists (W.setCell ⟨k, 6, none⟩ (.int .i64 0)) w3.heap.size X (.slice u1 c.slaves.length t1) (.slice u2 c.polls.length t2) (.slice u3 c.points.length t3) (.slice u4 c.ctls.length t4) := by rw [hX]; exact ⟨own_set HO5.out.sl HX5.out (by decide) _, own_set HO5.out.po HX5.out (by decide) _, own_set HO5.out.pt HX5.out (by decide) _, own_set HO5.out.ct HX5.out (by decide) _⟩
      exact ⟨hbb, box_set HT5.out.box (by have := HSZ.out; omega), by rw [hX]; exact heap_set _ _ _ _ _ _ _ HX5.out, HL0.out.on hbb, hown.lists⟩)
    have HFX : Hid (FewC X) := Lib.hid (by rw [hX]; exact HF.out)
    have hB2 := HBX.out.b2
    clear hX HT5 HO5 HX5
    go_wp2_with (refine ld28 (by rfl) _ rfl k rfl X (.slice u1 c.slaves.length t1) (.slice u2 c.polls.length t2) (.slice u3 c.points.length t3) (.slice u4 c.ctls.length t4) hB2 ?_)
    clear s0 f0 hB2
    generalize (W.setCell ⟨k, 6, none⟩ (.int .i64 0)) = W1 at *
    refine (print_no X _ _ _ _ W1 HBX.out.l2 HFX.out (by rw [HCH.out]; decide)).mono ?_
    rintro e z1 ⟨v, rfl, he, hb⟩
    rw [HCH.out] at he
    have HE := Lib.hid (err_chain he rfl)
    obtain ⟨tv, yv, rfl⟩ := errIs_iface (by decide) he
    have HR1 := Lib.hid (HBX.out.on hb)
    clear he hb HBX
    go_wp2_with fail
    refine (HFI.out _ (HG.out.on HR1.out.below)).mono ?_
    rintro e z2 ⟨rfl, hb⟩
    have HE2 := Lib.hid (Chain.on hb HE.out)
    have HR2 := Lib.hid (HR1.out.on hb)
    clear hb HE HR1
    go_wp2_with (first | (refine ld28 (by rfl) _ rfl w.heap.size rfl c sl po pt ct HR2.out.b1 ?_) | (refine ld28 (by rfl) _ rfl k rfl X (.slice u1 c.slaves.length t1) (.slice u2 c.polls.length t2) (.slice u3 c.points.length t3) (.slice u4 c.ctls.length t4) HR2.out.b2 ?_))
    refine (check_any X _ _ _ _ z2 HR2.out.l2 HFX.out).mono ?_
    rintro e z3 ⟨v3, rfl, he, hb⟩
    rw [HCH.out] at he
    have HD3 := Lib.hid (err_chain he rfl)
    obtain ⟨tw, yw, rfl⟩ := errIs_iface (by decide) he
    have HE3 := Lib.hid (Chain.on hb HE2.out)
    have HR3 := Lib.hid (HR2.out.on hb)
    clear he hb HE2 HR2
    go_wp2_with fail
    refine (of_code _ _ 1 z3 (HG.out.on HR3.out.below).1 HD3.out).mono ?_
    rintro e z4 ⟨rfl, hb⟩
    have HE4 := Lib.hid (Chain.on hb HE3.out)
    have HR4 := Lib.hid (HR3.out.on hb)
    clear hb HE3 HR3 HD3
    go_wp2_with (first | (refine ld28 (by rfl) _ rfl w.heap.size rfl c sl po pt ct HR4.out.b1 ?_) | (refine ld28 (by rfl) _ rfl k rfl X (.slice u1 c.slaves.length t1) (.slice u2 c.polls.length t2) (.slice u3 c.points.length t3) (.slice u4 c.ctls.length t4) HR4.out.b2 ?_))
    refine (check_any X _ _ _ _ z4 HR4.out.l2 HFX.out).mono ?_
    rintro e z5 ⟨v5, rfl, he, hb⟩
    rw [HCH.out] at he
    have HD5 := Lib.hid (err_chain he rfl)
    obtain ⟨tx, yx, rfl⟩ := errIs_iface (by decide) he
    have HE5 := Lib.hid (Chain.on hb HE4.out)
    have HR5 := Lib.hid (HR4.out.on hb)
    clear he hb HE4 HR4
    go_wp2_with fail
    refine (text_any _ _ 1 (by unfold IsInt; omega) z5 (HG.out.on HR5.out.below) HD5.out w_short6).mono ?_
    rintro e z6 ⟨rfl, hb⟩
    rw [w_text6]
    have HE6 := Lib.hid (Chain.on hb HE5.out)
    have HR6 := Lib.hid (HR5.out.on hb)
    clear hb HE5 HR5 HD5
    go_wp2_with fail
    refine (w_dec6 _).mono ?_
    rintro e z7 ⟨rfl, hb⟩
    have HE7 := Lib.hid (Chain.on hb HE6.out)
    have HR7 := Lib.hid (HR6.out.on hb)
    clear hb HE6 HR6
    have c1 := w_one6
    have c2 := w_two6
    go_wp2_with fail
    clear c1 c2
    refine (of_code _ _ 1 z7 (HG.out.on HR7.out.below).1 HE7.out).mono ?_
    rintro e z8 ⟨rfl, hb⟩
    have HR8 := Lib.hid (HR7.out.on hb)
    clear hb HE7 HR7
    go_wp2_with (first | (refine ld28 (by rfl) _ rfl w.heap.size rfl c sl po pt ct HR8.out.b1 ?_) | (refine ld28 (by rfl) _ rfl k rfl X (.slice u1 c.slaves.length t1) (.slice u2 c.polls.length t2) (.slice u3 c.points.length t3) (.slice u4 c.ctls.length t4) HR8.out.b2 ?_))
    refine (same_any c X _ _ _ _ _ _ _ _ z8 HR8.out.l1 HR8.out.l2 HF.out.some HFX.out.some).mono ?_
    rintro e z9 ⟨rfl, hb⟩
    rw [HNE.out X (by rw [HCH.out])]
    have HR9 := Lib.hid (HR8.out.on hb)
    clear hb HR8
    go_wp2
    go_ret
    exact ⟨rfl, HR9.out.below⟩
  · obtain ⟨X, hX⟩ : ∃ X : Cfg, X = { c with select := 10001 } := ⟨_, rfl⟩
    have s0 := cells_of HX5.out 7 _ rfl
    have f0 : W.frozen? ⟨k, 7, none⟩ = false := frozen_of_row _ _ _ _ _ HX5.out
    have HCH : Hid (checkR X = ([(sConfig, 7)], 1)) := Lib.hid (by
      rw [hX]
      refine check_field 6 (by omega) (fun j hj => by
        have h1 := HOK.out j (by omega)
        have hj' : j = 0 ∨ j = 1 ∨ j = 2 ∨ j = 3 ∨ j = 4 ∨ j = 5 := by omega
        rcases hj' with rfl | rfl | rfl | rfl | rfl | rfl <;> exact h1) ?_
      · simp [fieldsN, within])
    have HBX : Hid (TwoIn w w.heap.size k c X sl po pt ct (.slice u1 c.slaves.length t1) (.slice u2 c.polls.length t2) (.slice u3 c.points.length t3) (.slice u4 c.ctls.length t4) (W.setCell ⟨k, 7, none⟩ (.int .i64 10001))) := Lib.hid (by
      have hbb : Below w.heap.size w (W.setCell ⟨k, 7, none⟩ (.int .i64 10001)) := HT5.out.below.trans (below_set _ _ _ _ _ (by have := HSZ.out; omega))
      have hown : OwnLists (W.setCell ⟨k, 7, none⟩ (.int .i64 10001)) w3.heap.size X (.slice u1 c.slaves.length t1) (.slice u2 c.polls.length t2) (.slice u3 c.points.length t3) (.slice u4 c.ctls.length t4) := by rw [hX]; exact ⟨own_set HO5.out.sl HX5.out (by decide) _, own_set HO5.out.po HX5.out (by decide) _, own_set HO5.out.pt HX5.out (by decide) _, own_set HO5.out.ct HX5.out (by decide) _⟩
      exact ⟨hbb, box_set HT5.out.box (by have := HSZ.out; omega), by rw [hX]; exact heap_set _ _ _ _ _ _ _ HX5.out, HL0.out.on hbb, hown.lists⟩)
    have HFX : Hid (FewC X) := Lib.hid (by rw [hX]; exact HF.out)
    have hB2 := HBX.out.b2
    clear hX HT5 HO5 HX5
    go_wp2_with (refine ld28 (by rfl) _ rfl k rfl X (.slice u1 c.slaves.length t1) (.slice u2 c.polls.length t2) (.slice u3 c.points.length t3) (.slice u4 c.ctls.length t4) hB2 ?_)
    clear s0 f0 hB2
    generalize (W.setCell ⟨k, 7, none⟩ (.int .i64 10001)) = W1 at *
    refine (print_no X _ _ _ _ W1 HBX.out.l2 HFX.out (by rw [HCH.out]; decide)).mono ?_
    rintro e z1 ⟨v, rfl, he, hb⟩
    rw [HCH.out] at he
    have HE := Lib.hid (err_chain he rfl)
    obtain ⟨tv, yv, rfl⟩ := errIs_iface (by decide) he
    have HR1 := Lib.hid (HBX.out.on hb)
    clear he hb HBX
    go_wp2_with fail
    refine (HFI.out _ (HG.out.on HR1.out.below)).mono ?_
    rintro e z2 ⟨rfl, hb⟩
    have HE2 := Lib.hid (Chain.on hb HE.out)
    have HR2 := Lib.hid (HR1.out.on hb)
    clear hb HE HR1
    go_wp2_with (first | (refine ld28 (by rfl) _ rfl w.heap.size rfl c sl po pt ct HR2.out.b1 ?_) | (refine ld28 (by rfl) _ rfl k rfl X (.slice u1 c.slaves.length t1) (.slice u2 c.polls.length t2) (.slice u3 c.points.length t3) (.slice u4 c.ctls.length t4) HR2.out.b2 ?_))
    refine (check_any X _ _ _ _ z2 HR2.out.l2 HFX.out).mono ?_
    rintro e z3 ⟨v3, rfl, he, hb⟩
    rw [HCH.out] at he
    have HD3 := Lib.hid (err_chain he rfl)
    obtain ⟨tw, yw, rfl⟩ := errIs_iface (by decide) he
    have HE3 := Lib.hid (Chain.on hb HE2.out)
    have HR3 := Lib.hid (HR2.out.on hb)
    clear he hb HE2 HR2
    go_wp2_with fail
    refine (of_code _ _ 1 z3 (HG.out.on HR3.out.below).1 HD3.out).mono ?_
    rintro e z4 ⟨rfl, hb⟩
    have HE4 := Lib.hid (Chain.on hb HE3.out)
    have HR4 := Lib.hid (HR3.out.on hb)
    clear hb HE3 HR3 HD3
    go_wp2_with (first | (refine ld28 (by rfl) _ rfl w.heap.size rfl c sl po pt ct HR4.out.b1 ?_) | (refine ld28 (by rfl) _ rfl k rfl X (.slice u1 c.slaves.length t1) (.slice u2 c.polls.length t2) (.slice u3 c.points.length t3) (.slice u4 c.ctls.length t4) HR4.out.b2 ?_))
    refine (check_any X _ _ _ _ z4 HR4.out.l2 HFX.out).mono ?_
    rintro e z5 ⟨v5, rfl, he, hb⟩
    rw [HCH.out] at he
    have HD5 := Lib.hid (err_chain he rfl)
    obtain ⟨tx, yx, rfl⟩ := errIs_iface (by decide) he
    have HE5 := Lib.hid (Chain.on hb HE4.out)
    have HR5 := Lib.hid (HR4.out.on hb)
    clear he hb HE4 HR4
    go_wp2_with fail
    refine (text_any _ _ 1 (by unfold IsInt; omega) z5 (HG.out.on HR5.out.below) HD5.out w_short7).mono ?_
    rintro e z6 ⟨rfl, hb⟩
    rw [w_text7]
    have HE6 := Lib.hid (Chain.on hb HE5.out)
    have HR6 := Lib.hid (HR5.out.on hb)
    clear hb HE5 HR5 HD5
    go_wp2_with fail
    refine (w_dec7 _).mono ?_
    rintro e z7 ⟨rfl, hb⟩
    have HE7 := Lib.hid (Chain.on hb HE6.out)
    have HR7 := Lib.hid (HR6.out.on hb)
    clear hb HE6 HR6
    have c1 := w_one7
    have c2 := w_two7
    go_wp2_with fail
    clear c1 c2
    refine (of_code _ _ 1 z7 (HG.out.on HR7.out.below).1 HE7.out).mono ?_
    rintro e z8 ⟨rfl, hb⟩
    have HR8 := Lib.hid (HR7.out.on hb)
    clear hb HE7 HR7
    go_wp2_with (first | (refine ld28 (by rfl) _ rfl w.heap.size rfl c sl po pt ct HR8.out.b1 ?_) | (refine ld28 (by rfl) _ rfl k rfl X (.slice u1 c.slaves.length t1) (.slice u2 c.polls.length t2) (.slice u3 c.points.length t3) (.slice u4 c.ctls.length t4) HR8.out.b2 ?_))
    refine (same_any c X _ _ _ _ _ _ _ _ z8 HR8.out.l1 HR8.out.l2 HF.out.some HFX.out.some).mono ?_
    rintro e z9 ⟨rfl, hb⟩
    rw [HNE.out X (by rw [HCH.out])]
    have HR9 := Lib.hid (HR8.out.on hb)
    clear hb HR8
    go_wp2
    go_ret
    exact ⟨rfl, HR9.out.below⟩
  · obtain ⟨X, hX⟩ : ∃ X : Cfg, X = { c with confirm := 0 } := ⟨_, rfl⟩
    have s0 := cells_of HX5.out 8 _ rfl
    have f0 : W.frozen? ⟨k, 8, none⟩ = false := frozen_of_row _ _ _ _ _ HX5.out
    have HCH : Hid (checkR X = ([(sConfig, 8)], 1)) := Lib.hid (by
      rw [hX]
      refine check_field 7 (by omega) (fun j hj => by
        have h1 := HOK.out j (by omega)
        have hj' : j = 0 ∨ j = 1 ∨ j = 2 ∨ j = 3 ∨ j = 4 ∨ j = 5 ∨ j = 6 := by omega
        rcases hj' with rfl | rfl | rfl | rfl | rfl | rfl | rfl <;> exact h1) ?_
      · simp [fieldsN, within])
    have HBX : Hid (TwoIn w w.heap.size k c X sl po pt ct (.slice u1 c.slaves.length t1) (.slice u2 c.polls.length t2) (.slice u3 c.points.length t3) (.slice u4 c.ctls.length t4) (W.setCell ⟨k, 8, none⟩ (.int .i64 0))) := Lib.hid (by
      have hbb : Below w.heap.size w (W.setCell ⟨k, 8, none⟩ (.int .i64 0)) := HT5.out.below.trans (below_set _ _ _ _ _ (by have := HSZ.out; omega))
      have hown : OwnLists (W.setCell ⟨k, 8, none⟩ (.int .i64 0)) w3.heap.size X (.slice u1 c.slaves.length t1) (.slice u2 c.polls.length t2) (.slice u3 c.points.length t3) (.slice u4 c.ctls.length t4) := by rw [hX]; exact ⟨own_set HO5.out.sl HX5.out (by decide) _, own_set HO5.out.po HX5.out (by decide) _, own_set HO5.out.pt HX5.out (by decide) _, own_set HO5.out.ct HX5.out (by decide) _⟩
      exact ⟨hbb, box_set HT5.out.box (by have := HSZ.out; omega), by rw [hX]; exact heap_set _ _ _ _ _ _ _ HX5.out, HL0.out.on hbb, hown.lists⟩)
    have HFX : Hid (FewC X) := Lib.hid (by rw [hX]; exact HF.out)
    have hB2 := HBX.out.b2
    clear hX HT5 HO5 HX5
    go_wp2_with (refine ld28 (by rfl) _ rfl k rfl X (.slice u1 c.slaves.length t1) (.slice u2 c.polls.length t2) (.slice u3 c.points.length t3) (.slice u4 c.ctls.length t4) hB2 ?_)
    clear s0 f0 hB2
    generalize (W.setCell ⟨k, 8, none⟩ (.int .i64 0)) = W1 at *
    refine (print_no X _ _ _ _ W1 HBX.out.l2 HFX.out (by rw [HCH.out]; decide)).mono ?_
    rintro e z1 ⟨v, rfl, he, hb⟩
    rw [HCH.out] at he
    have HE := Lib.hid (err_chain he rfl)
    obtain ⟨tv, yv, rfl⟩ := errIs_iface (by decide) he
    have HR1 := Lib.hid (HBX.out.on hb)
    clear he hb HBX
    go_wp2_with fail
    refine (HFI.out _ (HG.out.on HR1.out.below)).mono ?_
    rintro e z2 ⟨rfl, hb⟩
    have HE2 := Lib.hid (Chain.on hb HE.out)
    have HR2 := Lib.hid (HR1.out.on hb)
    clear hb HE HR1
    go_wp2_with (first | (refine ld28 (by rfl) _ rfl w.heap.size rfl c sl po pt ct HR2.out.b1 ?_) | (refine ld28 (by rfl) _ rfl k rfl X (.slice u1 c.slaves.length t1) (.slice u2 c.polls.length t2) (.slice u3 c.points.length t3) (.slice u4 c.ctls.length t4) HR2.out.b2 ?_))
    refine (check_any X _ _ _ _ z2 HR2.out.l2 HFX.out).mono ?_
    rintro e z3 ⟨v3, rfl, he, hb⟩
    rw [HCH.out] at he
    have HD3 := Lib.hid (err_chain he rfl)
    obtain ⟨tw, yw, rfl⟩ := errIs_iface (by decide) he
    have HE3 := Lib.hid (Chain.on hb HE2.out)
    have HR3 := Lib.hid (HR2.out.on hb)
    clear he hb HE2 HR2
    go_wp2_with fail
    refine (of_code _ _ 1 z3 (HG.out.on HR3.out.below).1 HD3.out).mono ?_
    rintro e z4 ⟨rfl, hb⟩
    have HE4 := Lib.hid (Chain.on hb HE3.out)
    have HR4 := Lib.hid (HR3.out.on hb)
    clear hb HE3 HR3 HD3
    go_wp2_with (first | (refine ld28 (by rfl) _ rfl w.heap.size rfl c sl po pt ct HR4.out.b1 ?_) | (refine ld28 (by rfl) _ rfl k rfl X (.slice u1 c.slaves.length t1) (.slice u2 c.polls.length t2) (.slice u3 c.points.length t3) (.slice u4 c.ctls.length t4) HR4.out.b2 ?_))
    refine (check_any X _ _ _ _ z4 HR4.out.l2 HFX.out).mono ?_
    rintro e z5 ⟨v5, rfl, he, hb⟩
    rw [HCH.out] at he
    have HD5 := Lib.hid (err_chain he rfl)
    obtain ⟨tx, yx, rfl⟩ := errIs_iface (by decide) he
    have HE5 := Lib.hid (Chain.on hb HE4.out)
    have HR5 := Lib.hid (HR4.out.on hb)
    clear he hb HE4 HR4
    go_wp2_with fail
    refine (text_any _ _ 1 (by unfold IsInt; omega) z5 (HG.out.on HR5.out.below) HD5.out w_short8).mono ?_
    rintro e z6 ⟨rfl, hb⟩
    rw [w_text8]
    have HE6 := Lib.hid (Chain.on hb HE5.out)
    have HR6 := Lib.hid (HR5.out.on hb)
    clear hb HE5 HR5 HD5
    go_wp2_with fail
    refine (w_dec8 _).mono ?_
    rintro e z7 ⟨rfl, hb⟩
    have HE7 := Lib.hid (Chain.on hb HE6.out)
    have HR7 := Lib.hid (HR6.out.on hb)
    clear hb HE6 HR6
    have c1 := w_one8
    have c2 := w_two8
    go_wp2_with fail
    clear c1 c2
    refine (of_code _ _ 1 z7 (HG.out.on HR7.out.below).1 HE7.out).mono ?_
    rintro e z8 ⟨rfl, hb⟩
    have HR8 := Lib.hid (HR7.out.on hb)
    clear hb HE7 HR7
    go_wp2_with (first | (refine ld28 (by rfl) _ rfl w.heap.size rfl c sl po pt ct HR8.out.b1 ?_) | (refine ld28 (by rfl) _ rfl k rfl X (.slice u1 c.slaves.length t1) (.slice u2 c.polls.length t2) (.slice u3 c.points.length t3) (.slice u4 c.ctls.length t4) HR8.out.b2 ?_))
    refine (same_any c X _ _ _ _ _ _ _ _ z8 HR8.out.l1 HR8.out.l2 HF.out.some HFX.out.some).mono ?_
    rintro e z9 ⟨rfl, hb⟩
    rw [HNE.out X (by rw [HCH.out])]
    have HR9 := Lib.hid (HR8.out.on hb)
    clear hb HR8
    go_wp2
    go_ret
    exact ⟨rfl, HR9.out.below⟩
  · obtain ⟨X, hX⟩ : ∃ X : Cfg, X = { c with frag := 2049 } := ⟨_, rfl⟩
    have s0 := cells_of HX5.out 9 _ rfl
    have f0 : W.frozen? ⟨k, 9, none⟩ = false := frozen_of_row _ _ _ _ _ HX5.out
    have HCH : Hid (checkR X = ([(sConfig, 9)], 1)) := Lib.hid (by
      rw [hX]
      refine check_field 8 (by omega) (fun j hj => by
        have h1 := HOK.out j (by omega)
        have hj' : j = 0 ∨ j = 1 ∨ j = 2 ∨ j = 3 ∨ j = 4 ∨ j = 5 ∨ j = 6 ∨ j = 7 := by omega
        rcases hj' with rfl | rfl | rfl | rfl | rfl | rfl | rfl | rfl <;> exact h1) ?_
      · simp [fieldsN, within])
    have HBX : Hid (TwoIn w w.heap.size k c X sl po pt ct (.slice u1 c.slaves.length t1) (.slice u2 c.polls.length t2) (.slice u3 c.points.length t3) (.slice u4 c.ctls.length t4) (W.setCell ⟨k, 9, none⟩ (.int .i64 2049))) := Lib.hid (by
      have hbb : Below w.heap.size w (W.setCell ⟨k, 9, none⟩ (.int .i64 2049)) := HT5.out.below.trans (below_set _ _ _ _ _ (by have := HSZ.out; omega))
      have hown : OwnLists (W.setCell ⟨k, 9, none⟩ (.int .i64 2049)) w3.heap.size X (.slice u1 c.slaves.length t1) (.slice u2 c.polls.length t2) (.slice u3 c.points.length t3) (.slice u4 c.ctls.length t4) := by rw [hX]; exact ⟨own_set HO5.out.sl HX5.out (by decide) _, own_set HO5.out.po HX5.out (by decide) _, own_set HO5.out.pt HX5.out (by decide) _, own_set HO5.out.ct HX5.out (by decide) _⟩
      exact ⟨hbb, box_set HT5.out.box (by have := HSZ.out; omega), by rw [hX]; exact heap_set _ _ _ _ _ _ _ HX5.out, HL0.out.on hbb, hown.lists⟩)
    have HFX : Hid (FewC X) := Lib.hid (by rw [hX]; exact HF.out)
    have hB2 := HBX.out.b2
    clear hX HT5 HO5 HX5
    go_wp2_with (refine ld28 (by rfl) _ rfl k rfl X (.slice u1 c.slaves.length t1) (.slice u2 c.polls.length t2) (.slice u3 c.points.length t3) (.slice u4 c.ctls.length t4) hB2 ?_)
    clear s0 f0 hB2
    generalize (W.setCell ⟨k, 9, none⟩ (.int .i64 2049)) = W1 at *
    refine (print_no X _ _ _ _ W1 HBX.out.l2 HFX.out (by rw [HCH.out]; decide)).mono ?_
    rintro e z1 ⟨v, rfl, he, hb⟩
    rw [HCH.out] at he
    have HE := Lib.hid (err_chain he rfl)
    obtain ⟨tv, yv, rfl⟩ := errIs_iface (by decide) he
    have HR1 := Lib.hid (HBX.out.on hb)
    clear he hb HBX
    go_wp2_with fail
    refine (HFI.out _ (HG.out.on HR1.out.below)).mono ?_
    rintro e z2 ⟨rfl, hb⟩
    have HE2 := Lib.hid (Chain.on hb HE.out)
    have HR2 := Lib.hid (HR1.out.on hb)
    clear hb HE HR1
    go_wp2_with (first | (refine ld28 (by rfl) _ rfl w.heap.size rfl c sl po pt ct HR2.out.b1 ?_) | (refine ld28 (by rfl) _ rfl k rfl X (.slice u1 c.slaves.length t1) (.slice u2 c.polls.length t2) (.slice u3 c.points.length t3) (.slice u4 c.ctls.length t4) HR2.out.b2 ?_))
    refine (check_any X _ _ _ _ z2 HR2.out.l2 HFX.out).mono ?_
    rintro e z3 ⟨v3, rfl, he, hb⟩
    rw [HCH.out] at he
    have HD3 := Lib.hid (err_chain he rfl)
    obtain ⟨tw, yw, rfl⟩ := errIs_iface (by decide) he
    have HE3 := Lib.hid (Chain.on hb HE2.out)
    have HR3 := Lib.hid (HR2.out.on hb)
    clear he hb HE2 HR2
    go_wp2_with fail
    refine (of_code _ _ 1 z3 (HG.out.on HR3.out.below).1 HD3.out).mono ?_
    rintro e z4 ⟨rfl, hb⟩
    have HE4 := Lib.hid (Chain.on hb HE3.out)
    have HR4 := Lib.hid (HR3.out.on hb)
    clear hb HE3 HR3 HD3
    go_wp2_with (first | (refine ld28 (by rfl) _ rfl w.heap.size rfl c sl po pt ct HR4.out.b1 ?_) | (refine ld28 (by rfl) _ rfl k rfl X (.slice u1 c.slaves.length t1) (.slice u2 c.polls.length t2) (.slice u3 c.points.length t3) (.slice u4 c.ctls.length t4) HR4.out.b2 ?_))
    refine (check_any X _ _ _ _ z4 HR4.out.l2 HFX.out).mono ?_
    rintro e z5 ⟨v5, rfl, he, hb⟩
    rw [HCH.out] at he
    have HD5 := Lib.hid (err_chain he rfl)
    obtain ⟨tx, yx, rfl⟩ := errIs_iface (by decide) he
    have HE5 := Lib.hid (Chain.on hb HE4.out)
    have HR5 := Lib.hid (HR4.out.on hb)
    clear he hb HE4 HR4
    go_wp2_with fail
    refine (text_any _ _ 1 (by unfold IsInt; omega) z5 (HG.out.on HR5.out.below) HD5.out w_short9).mono ?_
    rintro e z6 ⟨rfl, hb⟩
    rw [w_text9]
    have HE6 := Lib.hid (Chain.on hb HE5.out)
    have HR6 := Lib.hid (HR5.out.on hb)
    clear hb HE5 HR5 HD5
    go_wp2_with fail
    refine (w_dec9 _).mono ?_
    rintro e z7 ⟨rfl, hb⟩
    have HE7 := Lib.hid (Chain.on hb HE6.out)
    have HR7 := Lib.hid (HR6.out.on hb)
    clear hb HE6 HR6
    have c1 := w_one9
    have c2 := w_two9
    go_wp2_with fail
    clear c1 c2
    refine (of_code _ _ 1 z7 (HG.out.on HR7.out.below).1 HE7.out).mono ?_
    rintro e z8 ⟨rfl, hb⟩
    have HR8 := Lib.hid (HR7.out.on hb)
    clear hb HE7 HR7
    go_wp2_with (first | (refine ld28 (by rfl) _ rfl w.heap.size rfl c sl po pt ct HR8.out.b1 ?_) | (refine ld28 (by rfl) _ rfl k rfl X (.slice u1 c.slaves.length t1) (.slice u2 c.polls.length t2) (.slice u3 c.points.length t3) (.slice u4 c.ctls.length t4) HR8.out.b2 ?_))
    refine (same_any c X _ _ _ _ _ _ _ _ z8 HR8.out.l1 HR8.out.l2 HF.out.some HFX.out.some).mono ?_
    rintro e z9 ⟨rfl, hb⟩
    rw [HNE.out X (by rw [HCH.out])]
    have HR9 := Lib.hid (HR8.out.on hb)
    clear hb HR8
    go_wp2
    go_ret
    exact ⟨rfl, HR9.out.below⟩
  · obtain ⟨X, hX⟩ : ∃ X : Cfg, X = { c with r2 := 0 } := ⟨_, rfl⟩
    have s0 := cells_of HX5.out 12 _ rfl
    have f0 : W.frozen? ⟨k, 12, none⟩ = false := frozen_of_row _ _ _ _ _ HX5.out
    have HCH : Hid (checkR X = ([(sConfig, 10)], 1)) := Lib.hid (by
      rw [hX]
      refine check_field 9 (by omega) (fun j hj => by
        have h1 := HOK.out j (by omega)
        have hj' : j = 0 ∨ j = 1 ∨ j = 2 ∨ j = 3 ∨ j = 4 ∨ j = 5 ∨ j = 6 ∨ j = 7 ∨ j = 8 := by omega
        rcases hj' with rfl | rfl | rfl | rfl | rfl | rfl | rfl | rfl | rfl <;> exact h1) ?_
      · simp [fieldsN, roomN, within])
    have HBX : Hid (TwoIn w w.heap.size k c X sl po pt ct (.slice u1 c.slaves.length t1) (.slice u2 c.polls.length t2) (.slice u3 c.points.length t3) (.slice u4 c.ctls.length t4) (W.setCell ⟨k, 12, none⟩ (.int .i64 0))) := Lib.hid (by
      have hbb : Below w.heap.size w (W.setCell ⟨k, 12, none⟩ (.int .i64 0)) := HT5.out.below.trans (below_set _ _ _ _ _ (by have := HSZ.out; omega))
      have hown : OwnLists (W.setCell ⟨k, 12, none⟩ (.int .i64 0)) w3.heap.size X (.slice u1 c.slaves.length t1) (.slice u2 c.polls.length t2) (.slice u3 c.points.length t3) (.slice u4 c.ctls.length t4) := by rw [hX]; exact ⟨own_set HO5.out.sl HX5.out (by decide) _, own_set HO5.out.po HX5.out (by decide) _, own_set HO5.out.pt HX5.out (by decide) _, own_set HO5.out.ct HX5.out (by decide) _⟩
      exact ⟨hbb, box_set HT5.out.box (by have := HSZ.out; omega), by rw [hX]; exact heap_set _ _ _ _ _ _ _ HX5.out, HL0.out.on hbb, hown.lists⟩)
    have HFX : Hid (FewC X) := Lib.hid (by rw [hX]; exact HF.out)
    have hB2 := HBX.out.b2
    clear hX HT5 HO5 HX5
    go_wp2_with (refine ld28 (by rfl) _ rfl k rfl X (.slice u1 c.slaves.length t1) (.slice u2 c.polls.length t2) (.slice u3 c.points.length t3) (.slice u4 c.ctls.length t4) hB2 ?_)
    clear s0 f0 hB2
    generalize (W.setCell ⟨k, 12, none⟩ (.int .i64 0)) = W1 at *
    refine (print_no X _ _ _ _ W1 HBX.out.l2 HFX.out (by rw [HCH.out]; decide)).mono ?_
    rintro e z1 ⟨v, rfl, he, hb⟩
    rw [HCH.out] at he
    have HE := Lib.hid (err_chain he rfl)
    obtain ⟨tv, yv, rfl⟩ := errIs_iface (by decide) he
    have HR1 := Lib.hid (HBX.out.on hb)
    clear he hb HBX
    go_wp2_with fail
    refine (HFI.out _ (HG.out.on HR1.out.below)).mono ?_
    rintro e z2 ⟨rfl, hb⟩
    have HE2 := Lib.hid (Chain.on hb HE.out)
    have HR2 := Lib.hid (HR1.out.on hb)
    clear hb HE HR1
    go_wp2_with (first | (refine ld28 (by rfl) _ rfl w.heap.size rfl c sl po pt ct HR2.out.b1 ?_) | (refine ld28 (by rfl) _ rfl k rfl X (.slice u1 c.slaves.length t1) (.slice u2 c.polls.length t2) (.slice u3 c.points.length t3) (.slice u4 c.ctls.length t4) HR2.out.b2 ?_))
    refine (check_any X _ _ _ _ z2 HR2.out.l2 HFX.out).mono ?_
    rintro e z3 ⟨v3, rfl, he, hb⟩
    rw [HCH.out] at he
    have HD3 := Lib.hid (err_chain he rfl)
    obtain ⟨tw, yw, rfl⟩ := errIs_iface (by decide) he
    have HE3 := Lib.hid (Chain.on hb HE2.out)
    have HR3 := Lib.hid (HR2.out.on hb)
    clear he hb HE2 HR2
    go_wp2_with fail
    refine (of_code _ _ 1 z3 (HG.out.on HR3.out.below).1 HD3.out).mono ?_
    rintro e z4 ⟨rfl, hb⟩
    have HE4 := Lib.hid (Chain.on hb HE3.out)
    have HR4 := Lib.hid (HR3.out.on hb)
    clear hb HE3 HR3 HD3
    go_wp2_with (first | (refine ld28 (by rfl) _ rfl w.heap.size rfl c sl po pt ct HR4.out.b1 ?_) | (refine ld28 (by rfl) _ rfl k rfl X (.slice u1 c.slaves.length t1) (.slice u2 c.polls.length t2) (.slice u3 c.points.length t3) (.slice u4 c.ctls.length t4) HR4.out.b2 ?_))
    refine (check_any X _ _ _ _ z4 HR4.out.l2 HFX.out).mono ?_
    rintro e z5 ⟨v5, rfl, he, hb⟩
    rw [HCH.out] at he
    have HD5 := Lib.hid (err_chain he rfl)
    obtain ⟨tx, yx, rfl⟩ := errIs_iface (by decide) he
    have HE5 := Lib.hid (Chain.on hb HE4.out)
    have HR5 := Lib.hid (HR4.out.on hb)
    clear he hb HE4 HR4
    go_wp2_with fail
    refine (text_any _ _ 1 (by unfold IsInt; omega) z5 (HG.out.on HR5.out.below) HD5.out w_short10).mono ?_
    rintro e z6 ⟨rfl, hb⟩
    rw [w_text10]
    have HE6 := Lib.hid (Chain.on hb HE5.out)
    have HR6 := Lib.hid (HR5.out.on hb)
    clear hb HE5 HR5 HD5
    go_wp2_with fail
    refine (w_dec10 _).mono ?_
    rintro e z7 ⟨rfl, hb⟩
    have HE7 := Lib.hid (Chain.on hb HE6.out)
    have HR7 := Lib.hid (HR6.out.on hb)
    clear hb HE6 HR6
    have c1 := w_one10
    have c2 := w_two10
    go_wp2_with fail
    clear c1 c2
    refine (of_code _ _ 1 z7 (HG.out.on HR7.out.below).1 HE7.out).mono ?_
    rintro e z8 ⟨rfl, hb⟩
    have HR8 := Lib.hid (HR7.out.on hb)
    clear hb HE7 HR7
    go_wp2_with (first | (refine ld28 (by rfl) _ rfl w.heap.size rfl c sl po pt ct HR8.out.b1 ?_) | (refine ld28 (by rfl) _ rfl k rfl X (.slice u1 c.slaves.length t1) (.slice u2 c.polls.length t2) (.slice u3 c.points.length t3) (.slice u4 c.ctls.length t4) HR8.out.b2 ?_))
    refine (same_any c X _ _ _ _ _ _ _ _ z8 HR8.out.l1 HR8.out.l2 HF.out.some HFX.out.some).mono ?_
    rintro e z9 ⟨rfl, hb⟩
    rw [HNE.out X (by rw [HCH.out])]
    have HR9 := Lib.hid (HR8.out.on hb)
    clear hb HR8
    go_wp2
    go_ret
    exact ⟨rfl, HR9.out.below⟩
end Go.Proofs.YtpocjmlkhophoaaGreatDoor
