/- What fail.In and (*Fail).Unwrap do in memory, and fail.guard round a function that returns: contracts over the translated program, for every argument. -/
import Derived.Test.YtcbiomcbkmdhaaaProg
import Derived.WalkKit
import Derived.LaidEql
import Derived.Stop.Asserts
import Derived.RowKitTokens
import Derived.Defers
import Derived.Recover
import Derived.Deep.LoopGhost
import Derived.Outline
namespace Go.Proofs.Ytcbiomcbkmdhaaa
open Go.RowKit Go.Extern.Stop Go.Stop Go.Extern

theorem in_nil (s : ByteArray) (p : Int) (w : World) : Calls Try.prog 17 #[.string s, .int .i64 p, .nilIface] w fun e w' => e = .returned .nilIface ∧ w = w' := by
  go_enter Try.func17, Try.ntmps17
  go_wp2
  go_ret
  exact ⟨rfl, rfl⟩

theorem in_some (s : ByteArray) (p : Int) (t : TypeId) (v : Value) (w : World) : Calls Try.prog 17 #[.string s, .int .i64 p, .iface t v] w fun e w' => e = .returned (.iface 51 (.pointer (some ⟨w.heap.size, 0, none⟩))) ∧ w' = w.alloc (.cells #[.string s, .int .i64 p, .iface t v] 53) := by
  go_enter Try.func17, Try.ntmps17
  go_wp2
  go_ret
  exact ⟨rfl, rfl⟩

end Go.Proofs.Ytcbiomcbkmdhaaa
