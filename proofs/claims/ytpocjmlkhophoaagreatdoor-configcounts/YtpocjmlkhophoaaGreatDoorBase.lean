/- What fail.In and (*Fail).Unwrap do in memory, and fail.guard round a function that returns: contracts over the translated program, for every argument. -/
import Derived.Test.YtpocjmlkhophoaaGreatDoorProg
import Derived.WalkKit
import Derived.LaidEql
import Derived.Stop.Asserts
import Derived.RowKitTokens
import Derived.Defers
import Derived.Recover
import Derived.Deep.LoopGhost
import Derived.Outline
namespace Go.Proofs.YtpocjmlkhophoaaGreatDoor
open Go.RowKit Go.Extern.Stop Go.Stop Go.Extern

theorem in_nil (s : ByteArray) (p : Int) (w : World) : Calls Tryz.prog 131 #[.string s, .int .i64 p, .nilIface] w fun e w' => e = .returned .nilIface ∧ w = w' := by
  go_enter Tryz.func131, Tryz.ntmps131
  go_wp2
  go_ret
  exact ⟨rfl, rfl⟩

theorem in_some (s : ByteArray) (p : Int) (t : TypeId) (v : Value) (w : World) : Calls Tryz.prog 131 #[.string s, .int .i64 p, .iface t v] w fun e w' => e = .returned (.iface 145 (.pointer (some ⟨w.heap.size, 0, none⟩))) ∧ w' = w.alloc (.cells #[.string s, .int .i64 p, .iface t v] 148) := by
  go_enter Tryz.func131, Tryz.ntmps131
  go_wp2
  go_ret
  exact ⟨rfl, rfl⟩

theorem unwrap_any (b : Nat) (v : Value) (w : World) (h : w.cell? ⟨b, 2, none⟩ = some v) : Calls Tryz.prog 206 #[.pointer (some ⟨b, 0, none⟩)] w fun e w' => e = .returned v ∧ w = w' := by
  go_enter Tryz.func206, Tryz.ntmps206
  go_wp2
  go_ret
  exact ⟨rfl, rfl⟩

theorem catch_idle (w : World) :
    CallsD Tryz.prog 124 #[] .returning w fun e u' w' => e = .returned (.tuple #[]) ∧ u' = .returning ∧ w = w' := by
  refine callsD_of_wpS Tryz.func124 rfl fun c₀ cs hu => ?_
  apply wpS_region
  simp [wpOpsS, go_sem, recoverD, hu, Tryz.ntmps124, bodyPostS, results, Tryz.results124]
  rw [← hu]

/-- fail.guard round a closure that returns: what the closure does, and no more. -/
theorem guard_any (f : FuncId) (caps : Array Value) (w : World) (R : World → Prop) (hf : ∀ w, (callFunc f caps).run Tryz.prog w = .ok (.enter f caps) w)
    (H : Hid (Calls Tryz.prog f caps w fun e w' => e = .returned (.tuple #[]) ∧ R w')) :
    Calls Tryz.prog 83 #[.func (.func f) #[] caps] w fun e w' => e = .returned (.tuple #[]) ∧ R w' := by
  go_enter_defers Tryz.func83, Tryz.ntmps83
  go_wp2_with fail
  refine H.out.mono ?_
  rintro e w' ⟨rfl, hR⟩
  go_wp2
  refine leaves_cons (f := 124) (args := #[]) (by simp) (by simp [go_sem]) ?_
  refine (catch_idle _).mono ?_
  rintro e u' w'' ⟨rfl, rfl, rfl⟩
  simp [Leaves, settle, results, Tryz.results83, hR]

theorem cf47 (caps : Array Value) (w : World) : (callFunc 134 caps).run Tryz.prog w = .ok (.enter 134 caps) w := by kernel_rfl
theorem cf39 (caps : Array Value) (w : World) : (callFunc 84 caps).run Tryz.prog w = .ok (.enter 84 caps) w := by kernel_rfl
end Go.Proofs.YtpocjmlkhophoaaGreatDoor
