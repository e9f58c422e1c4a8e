/- yardlaw4.WheelPlays answers true for every list of calls, and older memory stands: the two texts put together. -/
import Derived.Test.YtfefkkojdcipcaaDoorPl1
import Derived.Test.YtfefkkojdcipcaaDoorRset
namespace Go.Proofs.YtfefkkojdcipcaaDoor

theorem plays_whole (v : Value) (l : List OpV) (w : World) (hv : OpsAt w v l) (hg : ErrT w) : Calls Tryd.prog 3 #[v] w (Fine w) := plays_any rset_ok v l w hv hg
end Go.Proofs.YtfefkkojdcipcaaDoor
