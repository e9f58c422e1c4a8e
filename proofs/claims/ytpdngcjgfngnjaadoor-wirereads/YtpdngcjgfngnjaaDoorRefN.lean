/- yardref2.num, and yardref2.Reader's U: the document's own answers. -/
import Derived.Test.YtpdngcjgfngnjaaDoorRef
namespace Go.Proofs.YtpdngcjgfngnjaaDoor
open Go.RowKit Go.Extern.Stop Go.Stop Go.Extern

set_option maxRecDepth 100000 in
theorem num0 (v : Value) (w : World) (hv : BytesAt w v []) : Calls Tryd.prog 47 #[v] w fun e w' => e = .returned (.int .i64 (leNum [] : Nat)) ∧ w = w' := by
  obtain ⟨ao, cap, rfl, _⟩ := hv
  rw [List.length_nil]
  go_enter Tryd.func47, Tryd.ntmps47
  go_wp2
  refine wp_loop_rounds 1 ?_
  rw [rounds_succ]
  go_wp2
  go_ret
  exact ⟨rfl, rfl⟩

set_option maxRecDepth 100000 in
set_option maxHeartbeats 1000000 in
theorem num1 (b0 : UInt8) (v : Value) (w : World) (hv : BytesAt w v [b0]) : Calls Tryd.prog 47 #[v] w fun e w' => e = .returned (.int .i64 (leNum [b0] : Nat)) ∧ w = w' := by
  have HV := Lib.hid hv
  obtain ⟨ao, cap, rfl, _⟩ := hv
  have l0 := byte_lt b0
  go_enter Tryd.func47, Tryd.ntmps47
  go_wp2
  refine wp_loop_rounds 2 ?_
  rw [rounds_succ]
  obtain ⟨b, off, hao, hcell⟩ := HV.out.at' 0 (by simp)
  cases hao
  simp at hcell
  go_wp2
  clear hcell
  rw [rounds_succ]
  go_wp2
  go_ret
  refine ⟨?_, rfl⟩
  show Ending.returned (.int .i64 _) = _
  rw [show leNum [b0] = b0.toNat + 256 * (0) from rfl]
  congr 2
  all_goals omega

set_option maxRecDepth 100000 in
set_option maxHeartbeats 1000000 in
theorem num2 (b0 b1 : UInt8) (v : Value) (w : World) (hv : BytesAt w v [b0, b1]) : Calls Tryd.prog 47 #[v] w fun e w' => e = .returned (.int .i64 (leNum [b0, b1] : Nat)) ∧ w = w' := by
  have HV := Lib.hid hv
  obtain ⟨ao, cap, rfl, _⟩ := hv
  have l0 := byte_lt b0
  have l1 := byte_lt b1
  go_enter Tryd.func47, Tryd.ntmps47
  go_wp2
  refine wp_loop_rounds 3 ?_
  rw [rounds_succ]
  obtain ⟨b, off, hao, hcell⟩ := HV.out.at' 1 (by simp)
  cases hao
  simp at hcell
  go_wp2
  clear hcell
  rw [rounds_succ]
  obtain ⟨b, off, hao, hcell⟩ := HV.out.at' 0 (by simp)
  cases hao
  simp at hcell
  go_wp2
  clear hcell
  rw [rounds_succ]
  go_wp2
  go_ret
  refine ⟨?_, rfl⟩
  show Ending.returned (.int .i64 _) = _
  rw [show leNum [b0, b1] = b0.toNat + 256 * (b1.toNat + 256 * (0)) from rfl]
  congr 2
  all_goals omega

set_option maxRecDepth 100000 in
set_option maxHeartbeats 1000000 in
theorem num3 (b0 b1 b2 : UInt8) (v : Value) (w : World) (hv : BytesAt w v [b0, b1, b2]) : Calls Tryd.prog 47 #[v] w fun e w' => e = .returned (.int .i64 (leNum [b0, b1, b2] : Nat)) ∧ w = w' := by
  have HV := Lib.hid hv
  obtain ⟨ao, cap, rfl, _⟩ := hv
  have l0 := byte_lt b0
  have l1 := byte_lt b1
  have l2 := byte_lt b2
  go_enter Tryd.func47, Tryd.ntmps47
  go_wp2
  refine wp_loop_rounds 4 ?_
  rw [rounds_succ]
  obtain ⟨b, off, hao, hcell⟩ := HV.out.at' 2 (by simp)
  cases hao
  simp at hcell
  go_wp2
  clear hcell
  rw [rounds_succ]
  obtain ⟨b, off, hao, hcell⟩ := HV.out.at' 1 (by simp)
  cases hao
  simp at hcell
  go_wp2
  clear hcell
  rw [rounds_succ]
  obtain ⟨b, off, hao, hcell⟩ := HV.out.at' 0 (by simp)
  cases hao
  simp at hcell
  go_wp2
  clear hcell
  rw [rounds_succ]
  go_wp2
  go_ret
  refine ⟨?_, rfl⟩
  show Ending.returned (.int .i64 _) = _
  rw [show leNum [b0, b1, b2] = b0.toNat + 256 * (b1.toNat + 256 * (b2.toNat + 256 * (0))) from rfl]
  congr 2
  all_goals omega

set_option maxRecDepth 100000 in
set_option maxHeartbeats 1000000 in
theorem num4 (b0 b1 b2 b3 : UInt8) (v : Value) (w : World) (hv : BytesAt w v [b0, b1, b2, b3]) : Calls Tryd.prog 47 #[v] w fun e w' => e = .returned (.int .i64 (leNum [b0, b1, b2, b3] : Nat)) ∧ w = w' := by
  have HV := Lib.hid hv
  obtain ⟨ao, cap, rfl, _⟩ := hv
  have l0 := byte_lt b0
  have l1 := byte_lt b1
  have l2 := byte_lt b2
  have l3 := byte_lt b3
  go_enter Tryd.func47, Tryd.ntmps47
  go_wp2
  refine wp_loop_rounds 5 ?_
  rw [rounds_succ]
  obtain ⟨b, off, hao, hcell⟩ := HV.out.at' 3 (by simp)
  cases hao
  simp at hcell
  go_wp2
  clear hcell
  rw [rounds_succ]
  obtain ⟨b, off, hao, hcell⟩ := HV.out.at' 2 (by simp)
  cases hao
  simp at hcell
  go_wp2
  clear hcell
  rw [rounds_succ]
  obtain ⟨b, off, hao, hcell⟩ := HV.out.at' 1 (by simp)
  cases hao
  simp at hcell
  go_wp2
  clear hcell
  rw [rounds_succ]
  obtain ⟨b, off, hao, hcell⟩ := HV.out.at' 0 (by simp)
  cases hao
  simp at hcell
  go_wp2
  clear hcell
  rw [rounds_succ]
  go_wp2
  go_ret
  refine ⟨?_, rfl⟩
  show Ending.returned (.int .i64 _) = _
  rw [show leNum [b0, b1, b2, b3] = b0.toNat + 256 * (b1.toNat + 256 * (b2.toNat + 256 * (b3.toNat + 256 * (0)))) from rfl]
  congr 2
  all_goals omega

set_option maxRecDepth 100000 in
set_option maxHeartbeats 1000000 in
theorem num5 (b0 b1 b2 b3 b4 : UInt8) (v : Value) (w : World) (hv : BytesAt w v [b0, b1, b2, b3, b4]) : Calls Tryd.prog 47 #[v] w fun e w' => e = .returned (.int .i64 (leNum [b0, b1, b2, b3, b4] : Nat)) ∧ w = w' := by
  have HV := Lib.hid hv
  obtain ⟨ao, cap, rfl, _⟩ := hv
  have l0 := byte_lt b0
  have l1 := byte_lt b1
  have l2 := byte_lt b2
  have l3 := byte_lt b3
  have l4 := byte_lt b4
  go_enter Tryd.func47, Tryd.ntmps47
  go_wp2
  refine wp_loop_rounds 6 ?_
  rw [rounds_succ]
  obtain ⟨b, off, hao, hcell⟩ := HV.out.at' 4 (by simp)
  cases hao
  simp at hcell
  go_wp2
  clear hcell
  rw [rounds_succ]
  obtain ⟨b, off, hao, hcell⟩ := HV.out.at' 3 (by simp)
  cases hao
  simp at hcell
  go_wp2
  clear hcell
  rw [rounds_succ]
  obtain ⟨b, off, hao, hcell⟩ := HV.out.at' 2 (by simp)
  cases hao
  simp at hcell
  go_wp2
  clear hcell
  rw [rounds_succ]
  obtain ⟨b, off, hao, hcell⟩ := HV.out.at' 1 (by simp)
  cases hao
  simp at hcell
  go_wp2
  clear hcell
  rw [rounds_succ]
  obtain ⟨b, off, hao, hcell⟩ := HV.out.at' 0 (by simp)
  cases hao
  simp at hcell
  go_wp2
  clear hcell
  rw [rounds_succ]
  go_wp2
  go_ret
  refine ⟨?_, rfl⟩
  show Ending.returned (.int .i64 _) = _
  rw [show leNum [b0, b1, b2, b3, b4] = b0.toNat + 256 * (b1.toNat + 256 * (b2.toNat + 256 * (b3.toNat + 256 * (b4.toNat + 256 * (0))))) from rfl]
  congr 2
  all_goals omega

set_option maxRecDepth 100000 in
set_option maxHeartbeats 1000000 in
theorem num6 (b0 b1 b2 b3 b4 b5 : UInt8) (v : Value) (w : World) (hv : BytesAt w v [b0, b1, b2, b3, b4, b5]) : Calls Tryd.prog 47 #[v] w fun e w' => e = .returned (.int .i64 (leNum [b0, b1, b2, b3, b4, b5] : Nat)) ∧ w = w' := by
  have HV := Lib.hid hv
  obtain ⟨ao, cap, rfl, _⟩ := hv
  have l0 := byte_lt b0
  have l1 := byte_lt b1
  have l2 := byte_lt b2
  have l3 := byte_lt b3
  have l4 := byte_lt b4
  have l5 := byte_lt b5
  go_enter Tryd.func47, Tryd.ntmps47
  go_wp2
  refine wp_loop_rounds 7 ?_
  rw [rounds_succ]
  obtain ⟨b, off, hao, hcell⟩ := HV.out.at' 5 (by simp)
  cases hao
  simp at hcell
  go_wp2
  clear hcell
  rw [rounds_succ]
  obtain ⟨b, off, hao, hcell⟩ := HV.out.at' 4 (by simp)
  cases hao
  simp at hcell
  go_wp2
  clear hcell
  rw [rounds_succ]
  obtain ⟨b, off, hao, hcell⟩ := HV.out.at' 3 (by simp)
  cases hao
  simp at hcell
  go_wp2
  clear hcell
  rw [rounds_succ]
  obtain ⟨b, off, hao, hcell⟩ := HV.out.at' 2 (by simp)
  cases hao
  simp at hcell
  go_wp2
  clear hcell
  rw [rounds_succ]
  obtain ⟨b, off, hao, hcell⟩ := HV.out.at' 1 (by simp)
  cases hao
  simp at hcell
  go_wp2
  clear hcell
  rw [rounds_succ]
  obtain ⟨b, off, hao, hcell⟩ := HV.out.at' 0 (by simp)
  cases hao
  simp at hcell
  go_wp2
  clear hcell
  rw [rounds_succ]
  go_wp2
  go_ret
  refine ⟨?_, rfl⟩
  show Ending.returned (.int .i64 _) = _
  rw [show leNum [b0, b1, b2, b3, b4, b5] = b0.toNat + 256 * (b1.toNat + 256 * (b2.toNat + 256 * (b3.toNat + 256 * (b4.toNat + 256 * (b5.toNat + 256 * (0)))))) from rfl]
  congr 2
  all_goals omega

theorem num_any (v : Value) (l : List UInt8) (w : World) (h : BytesAt w v l) (h2 : l.length ≤ 6) : Calls Tryd.prog 47 #[v] w fun e w' => e = .returned (.int .i64 (leNum l : Nat)) ∧ w = w' := by
  match l, h, h2 with
  | [], h, _ => exact num0 v w h
  | [b0], h, _ => exact num1 b0 v w h
  | [b0, b1], h, _ => exact num2 b0 b1 v w h
  | [b0, b1, b2], h, _ => exact num3 b0 b1 b2 v w h
  | [b0, b1, b2, b3], h, _ => exact num4 b0 b1 b2 b3 v w h
  | [b0, b1, b2, b3, b4], h, _ => exact num5 b0 b1 b2 b3 b4 v w h
  | [b0, b1, b2, b3, b4, b5], h, _ => exact num6 b0 b1 b2 b3 b4 b5 v w h
  | _ :: _ :: _ :: _ :: _ :: _ :: _ :: _, _, h2 => simp at h2
end Go.Proofs.YtpdngcjgfngnjaaDoor
