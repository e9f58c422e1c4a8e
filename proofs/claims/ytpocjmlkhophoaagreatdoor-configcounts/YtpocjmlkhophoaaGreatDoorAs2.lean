/- errors.as where nothing is found, and at a *Fail: the other cases of what errors.As comes to. -/
import Derived.Test.YtpocjmlkhophoaaGreatDoorAs
namespace Go.Proofs.YtpocjmlkhophoaaGreatDoor
open Go.RowKit Go.Extern.Stop Go.Stop Go.Extern

/-- errors.as at a target of type 45: an error of type 22 is none, and wraps none. -/
theorem as_in_miss45_22 (x : Value) (t a : Addr) (w : World) :
    Calls Tryz.prog 128 #[.iface 32 x, .iface 181 (.pointer (some t)), (.agg #[.pointer (some ⟨4, 181, none⟩), .pointer (some a), .int .u64 150]), .iface 200 (.agg #[.pointer (some ⟨4, 145, none⟩)])] w fun e w' =>
      e = .returned (.bool false) ∧ w' = (w.alloc (.cells #[.pointer (some ⟨4, 181, none⟩), .pointer (some a), .int .u64 150] 167)) := by
  have h34 := @run_callFunc_extern Tryz.prog 125 _ (fun args => ReflectliteValue.unpack (args.getD 0 (.tuple #[]))) Tryz.func125 (by kernel_rfl) (by kernel_rfl) (by kernel_rfl) (by kernel_rfl)
  have h32 := @run_callFunc_extern Tryz.prog 156 _ ReflectliteType.typeOf Tryz.func156 (by kernel_rfl) (by kernel_rfl) (by kernel_rfl) (by kernel_rfl)
  have h86 := @run_callFunc_extern Tryz.prog 211 _ (ReflectliteType.relation "AssignableTo" ReflectliteType.assignableTo) Tryz.func211 (by kernel_rfl) (by kernel_rfl) (by kernel_rfl) (by kernel_rfl)
  have h45 := @run_callFunc_extern Tryz.prog 157 _ (ReflectliteValue.method (ReflectliteValue.valueError "reflectlite.Value.Elem" 0) ReflectliteValue.elem) Tryz.func157 (by kernel_rfl) (by kernel_rfl) (by kernel_rfl) (by kernel_rfl)
  have h46 := @run_callFunc_extern Tryz.prog 158 _ ReflectliteValue.set Tryz.func158 (by kernel_rfl) (by kernel_rfl) (by kernel_rfl) (by kernel_rfl)
  have mA := methodAssignableTo
  have tO := typeOf22
  have aa := assignable22to42
  have nA := noAs22
  have nU := noUnwrap22
  have nUs := noUnwraps22
  go_enter Tryz.func128, Tryz.ntmps128
  go_wp2
  refine wp_loop_rounds 1 ?_
  rw [rounds_succ]
  go_wp2
  go_ret
  exact ⟨rfl, rfl⟩

/-- errors.as at an api.Code: a Fail without an error has none. -/
theorem as_in_empty (b : Nat) (t a : Addr) (w : World) (hb : b < w.heap.size) (h2 : w.cell? ⟨b, 2, none⟩ = some .nilIface) :
    Calls Tryz.prog 128 #[.iface 145 (.pointer (some ⟨b, 0, none⟩)), .iface 125 (.pointer (some t)), (.agg #[.pointer (some ⟨4, 125, none⟩), .pointer (some a), .int .u64 150]), .iface 200 (.agg #[.pointer (some ⟨4, 32, none⟩)])] w fun e w' =>
      e = .returned (.bool false) ∧ w' = (w.alloc (.cells #[.pointer (some ⟨4, 125, none⟩), .pointer (some a), .int .u64 150] 167)) := by
  have h34 := @run_callFunc_extern Tryz.prog 125 _ (fun args => ReflectliteValue.unpack (args.getD 0 (.tuple #[]))) Tryz.func125 (by kernel_rfl) (by kernel_rfl) (by kernel_rfl) (by kernel_rfl)
  have h32 := @run_callFunc_extern Tryz.prog 156 _ ReflectliteType.typeOf Tryz.func156 (by kernel_rfl) (by kernel_rfl) (by kernel_rfl) (by kernel_rfl)
  have h86 := @run_callFunc_extern Tryz.prog 211 _ (ReflectliteType.relation "AssignableTo" ReflectliteType.assignableTo) Tryz.func211 (by kernel_rfl) (by kernel_rfl) (by kernel_rfl) (by kernel_rfl)
  have h45 := @run_callFunc_extern Tryz.prog 157 _ (ReflectliteValue.method (ReflectliteValue.valueError "reflectlite.Value.Elem" 0) ReflectliteValue.elem) Tryz.func157 (by kernel_rfl) (by kernel_rfl) (by kernel_rfl) (by kernel_rfl)
  have h46 := @run_callFunc_extern Tryz.prog 158 _ ReflectliteValue.set Tryz.func158 (by kernel_rfl) (by kernel_rfl) (by kernel_rfl) (by kernel_rfl)
  have mA := methodAssignableTo
  have mU := methodUnwrap
  have tO' := typeOf42
  have a42 := assignable42to22
  have nA := noAs42
  have hU := hasUnwrap42
  have h2' : (w.alloc (.cells #[.pointer (some ⟨4, 125, none⟩), .pointer (some a), .int .u64 150] 167)).cell? ⟨b, 2, none⟩ = some .nilIface := by rw [World.cell?_alloc_lt _ _ ⟨b, 2, none⟩ hb]; exact h2
  clear h2
  go_enter Tryz.func128, Tryz.ntmps128
  go_wp2
  refine wp_loop_rounds 1 ?_
  rw [rounds_succ]
  go_wp2_with (go_at_call 206; refine (unwrap_any b _ _ h2').mono ?_; rintro e w' ⟨rfl, rfl⟩)
  go_ret
  exact ⟨rfl, rfl⟩

set_option maxHeartbeats 4000000 in
/-- errors.as at a *Fail: a Fail is found at once. -/
theorem as_in_fail (ea t a : Addr) (old : Value) (w : World)
    (ha0 : w.cell? a = some (.pointer (some t))) (ht0 : w.cell? t = some old) (hf0 : w.frozen? t = false) :
    Calls Tryz.prog 128 #[.iface 145 (.pointer (some ea)), .iface 181 (.pointer (some t)), (.agg #[.pointer (some ⟨4, 181, none⟩), .pointer (some a), .int .u64 150]), .iface 200 (.agg #[.pointer (some ⟨4, 145, none⟩)])] w fun e w' =>
      e = .returned (.bool true) ∧ w' = ((w.alloc (.cells #[.pointer (some ⟨4, 181, none⟩), .pointer (some a), .int .u64 150] 167)).alloc (.cells #[.pointer (some ea)] 145)).setCell t (.pointer (some ea)) := by
  have h34 := @run_callFunc_extern Tryz.prog 125 _ (fun args => ReflectliteValue.unpack (args.getD 0 (.tuple #[]))) Tryz.func125 (by kernel_rfl) (by kernel_rfl) (by kernel_rfl) (by kernel_rfl)
  have h32 := @run_callFunc_extern Tryz.prog 156 _ ReflectliteType.typeOf Tryz.func156 (by kernel_rfl) (by kernel_rfl) (by kernel_rfl) (by kernel_rfl)
  have h86 := @run_callFunc_extern Tryz.prog 211 _ (ReflectliteType.relation "AssignableTo" ReflectliteType.assignableTo) Tryz.func211 (by kernel_rfl) (by kernel_rfl) (by kernel_rfl) (by kernel_rfl)
  have h45 := @run_callFunc_extern Tryz.prog 157 _ (ReflectliteValue.method (ReflectliteValue.valueError "reflectlite.Value.Elem" 0) ReflectliteValue.elem) Tryz.func157 (by kernel_rfl) (by kernel_rfl) (by kernel_rfl) (by kernel_rfl)
  have h46 := @run_callFunc_extern Tryz.prog 158 _ ReflectliteValue.set Tryz.func158 (by kernel_rfl) (by kernel_rfl) (by kernel_rfl) (by kernel_rfl)
  have mA := methodAssignableTo
  have tO' := typeOf42
  have a42 := assignable42to42
  have v42 := valueOf42
  have htl : t.block < w.heap.size := by
    rcases Nat.lt_or_ge t.block w.heap.size with h | h
    · exact h
    · simp [World.cell?, Array.getElem?_eq_none h] at ht0
  have hal : a.block < w.heap.size := by
    rcases Nat.lt_or_ge a.block w.heap.size with h | h
    · exact h
    · simp [World.cell?, Array.getElem?_eq_none h] at ha0
  have el := elemV45 a t (w.alloc (.cells #[.pointer (some ⟨4, 181, none⟩), .pointer (some a), .int .u64 150] 167)) (by rw [World.cell?_alloc_lt _ _ a hal]; exact ha0)
  have st := set42 t ⟨w.heap.size + 1, 0, none⟩ ea old ((w.alloc (.cells #[.pointer (some ⟨4, 181, none⟩), .pointer (some a), .int .u64 150] 167)).alloc (.cells #[.pointer (some ea)] 145))
    (by rw [World.cell?_alloc_at _ _ _ _ (by simp)]; rfl)
    (by rw [World.cell?_alloc_lt _ _ t (by simp; omega), World.cell?_alloc_lt _ _ t htl]; exact ht0)
    (by rw [World.frozen?_alloc_old _ _ t (by simp; omega), World.frozen?_alloc_old _ _ t (Nat.ne_of_lt htl)]; exact hf0)
  clear ha0 ht0 hf0
  go_enter Tryz.func128, Tryz.ntmps128
  go_wp2
  refine wp_loop_rounds 1 ?_
  rw [rounds_succ]
  go_wp2
  go_ret
  exact ⟨rfl, rfl⟩
end Go.Proofs.YtpocjmlkhophoaaGreatDoor
