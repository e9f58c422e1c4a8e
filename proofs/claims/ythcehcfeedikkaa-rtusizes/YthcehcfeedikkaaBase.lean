/- What fail.In and (*Fail).Unwrap do in memory, and fail.guard round a function that returns: contracts over the translated program, for every argument. -/
import Derived.Test.YthcehcfeedikkaaProg
import Derived.WalkKit
import Derived.LaidEql
import Derived.Stop.Asserts
import Derived.RowKitTokens
import Derived.Defers
import Derived.Recover
import Derived.Deep.LoopGhost
import Derived.Outline
namespace Go.Proofs.Ythcehcfeedikkaa
open Go.RowKit Go.Extern.Stop Go.Stop Go.Extern

theorem in_nil (s : ByteArray) (p : Int) (w : World) : Calls Try.prog 20 #[.string s, .int .i64 p, .nilIface] w fun e w' => e = .returned .nilIface ∧ w = w' := by
  go_enter Try.func20, Try.ntmps20
  go_wp2
  go_ret
  exact ⟨rfl, rfl⟩

theorem in_some (s : ByteArray) (p : Int) (t : TypeId) (v : Value) (w : World) : Calls Try.prog 20 #[.string s, .int .i64 p, .iface t v] w fun e w' => e = .returned (.iface 50 (.pointer (some ⟨w.heap.size, 0, none⟩))) ∧ w' = w.alloc (.cells #[.string s, .int .i64 p, .iface t v] 52) := by
  go_enter Try.func20, Try.ntmps20
  go_wp2
  go_ret
  exact ⟨rfl, rfl⟩

end Go.Proofs.Ythcehcfeedikkaa
