/- errors.Is, out of its inner function: through all wraps it finds the code that was wrapped, and no other. -/
import Derived.Test.YtcdjiejpccakaaaDoorIs
namespace Go.Proofs.YtcdjiejpccakaaaDoor
open Go.RowKit Go.Extern.Stop Go.Stop Go.Extern

theorem comparable22 (w : World) : (ReflectliteType.method (fun t => do Rtype.noPackHeld "Comparable" t; (fun a => Value.bool a.comparable) <$> typeInfo t) #[.agg #[.pointer (some ⟨4, 22, none⟩)]]).run Tryd.prog w = .ok (.bool true) w := by kernel_rfl
theorem comparable83 (w : World) : (ReflectliteType.method (fun t => do Rtype.noPackHeld "Comparable" t; (fun a => Value.bool a.comparable) <$> typeInfo t) #[.agg #[.pointer (some ⟨4, 83, none⟩)]]).run Tryd.prog w = .ok (.bool true) w := by kernel_rfl

set_option maxRecDepth 100000 in
set_option maxHeartbeats 4000000 in
/-- errors.Is at a code: the code that was wrapped, and no other. -/
theorem is_code (l : List (ByteArray × Int)) (v : Value) (c d : Int) (w : World) (hch : Chain w (.iface 22 (.int .i64 c)) l v) :
    Calls Tryd.prog 18 #[v, .iface 22 (.int .i64 d)] w fun e w' => e = .returned (.bool (c == d)) ∧ w = w' := by
  obtain ⟨te, ye, rfl⟩ := hch.iface
  have H := Lib.hid (is_in_code l _ c d w hch)
  clear hch
  have h32 := @run_callFunc_extern Tryd.prog 32 _ ReflectliteType.typeOf Tryd.func32 (by kernel_rfl) (by kernel_rfl) (by kernel_rfl) (by kernel_rfl)
  have h87 := @run_callFunc_extern Tryd.prog 87 _ (ReflectliteType.method (fun t => do Rtype.noPackHeld "Comparable" t; pure (.bool (← typeInfo t).comparable))) Tryd.func87 (by kernel_rfl) (by kernel_rfl) (by kernel_rfl) (by kernel_rfl)
  have tO := typeOf22
  have mC := methodComparable
  have cT := comparable22
  go_enter Tryd.func18, Tryd.ntmps18
  go_wp2_with fail
  refine H.out.mono ?_
  rintro e w' ⟨rfl, rfl⟩
  go_wp2
  go_ret
  exact ⟨rfl, rfl⟩

set_option maxRecDepth 100000 in
set_option maxHeartbeats 4000000 in
/-- errors.Is at a code: never for an error of errors.New's. -/
theorem is_other (l : List (ByteArray × Int)) (v : Value) (x : Value) (d : Int) (w : World) (hch : Chain w (.iface 83 x) l v) :
    Calls Tryd.prog 18 #[v, .iface 22 (.int .i64 d)] w fun e w' => e = .returned (.bool false) ∧ w = w' := by
  obtain ⟨te, ye, rfl⟩ := hch.iface
  have H := Lib.hid (is_in_other l _ x d w hch)
  clear hch
  have h32 := @run_callFunc_extern Tryd.prog 32 _ ReflectliteType.typeOf Tryd.func32 (by kernel_rfl) (by kernel_rfl) (by kernel_rfl) (by kernel_rfl)
  have h87 := @run_callFunc_extern Tryd.prog 87 _ (ReflectliteType.method (fun t => do Rtype.noPackHeld "Comparable" t; pure (.bool (← typeInfo t).comparable))) Tryd.func87 (by kernel_rfl) (by kernel_rfl) (by kernel_rfl) (by kernel_rfl)
  have tO := typeOf22
  have mC := methodComparable
  have cT := comparable22
  go_enter Tryd.func18, Tryd.ntmps18
  go_wp2_with fail
  refine H.out.mono ?_
  rintro e w' ⟨rfl, rfl⟩
  go_wp2
  go_ret
  exact ⟨rfl, rfl⟩

set_option maxRecDepth 100000 in
set_option maxHeartbeats 4000000 in
/-- errors.Is at the very error of errors.New's that was wrapped. -/
theorem is_self (l : List (ByteArray × Int)) (v : Value) (a : Addr) (w : World) (hch : Chain w (.iface 83 (.pointer (some a))) l v) :
    Calls Tryd.prog 18 #[v, .iface 83 (.pointer (some a))] w fun e w' => e = .returned (.bool true) ∧ w = w' := by
  obtain ⟨te, ye, rfl⟩ := hch.iface
  have H := Lib.hid (is_in_self l _ a w hch)
  clear hch
  have h32 := @run_callFunc_extern Tryd.prog 32 _ ReflectliteType.typeOf Tryd.func32 (by kernel_rfl) (by kernel_rfl) (by kernel_rfl) (by kernel_rfl)
  have h87 := @run_callFunc_extern Tryd.prog 87 _ (ReflectliteType.method (fun t => do Rtype.noPackHeld "Comparable" t; pure (.bool (← typeInfo t).comparable))) Tryd.func87 (by kernel_rfl) (by kernel_rfl) (by kernel_rfl) (by kernel_rfl)
  have tO := typeOf83
  have mC := methodComparable
  have cT := comparable83
  go_enter Tryd.func18, Tryd.ntmps18
  go_wp2_with fail
  refine H.out.mono ?_
  rintro e w' ⟨rfl, rfl⟩
  go_wp2
  go_ret
  exact ⟨rfl, rfl⟩
end Go.Proofs.YtcdjiejpccakaaaDoor
