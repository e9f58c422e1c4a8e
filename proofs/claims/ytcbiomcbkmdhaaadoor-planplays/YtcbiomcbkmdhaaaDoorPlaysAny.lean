/- yardlaw9.PlanPlays, lists that are too long too. -/
import Derived.Test.YtcbiomcbkmdhaaaDoorPlays
namespace Go.Proofs.YtcbiomcbkmdhaaaDoor
open Go.RowKit Go.Extern.Stop Go.Stop Go.Extern

set_option maxRecDepth 100000 in
set_option maxHeartbeats 2000000 in
theorem plays_any (v vo : Value) (l : List Int) (ops : List OpV) (w : World) (hv : IntsAt w v l) (hvo : OpsAt w vo ops) (hg : ErrT w) : Calls Tryd.prog 3 #[v, vo] w (Fine w) := by
  have hv' := hv
  have hvo' := hvo
  obtain ⟨ao, cap, rfl, _⟩ := hv'
  obtain ⟨oo, ocap, rfl, _⟩ := hvo'
  by_cases h1 : l.length ≤ 300
  · by_cases h2 : ops.length ≤ 200
    · exact plays_in ao oo cap ocap l ops w hg hv hvo h1 h2
    · have h3 : (l.length : Int) ≤ 300 := by omega
      have h4 : (200 : Int) < (ops.length : Int) := by omega
      clear hv hvo h1 h2
      go_enter Tryd.func3, Tryd.ntmps3
      go_wp2_with fail
      refine (first_any _).mono ?_
      rintro e wa ⟨rfl, hba⟩
      have BA := Lib.hid hba
      clear hba
      go_wp2_with fail
      refine (first_any _).mono ?_
      rintro e wb ⟨rfl, hb⟩
      have BB := Lib.hid (BA.out.trans (hb.mono BA.out.size))
      clear hb
      go_wp2
      go_ret
      exact ⟨rfl, BB.out⟩
  · have h3 : (300 : Int) < (l.length : Int) := by omega
    clear hv hvo h1
    go_enter Tryd.func3, Tryd.ntmps3
    go_wp2_with fail
    refine (first_any _).mono ?_
    rintro e wa ⟨rfl, hba⟩
    have BA := Lib.hid hba
    clear hba
    go_wp2_with fail
    refine (first_any _).mono ?_
    rintro e wb ⟨rfl, hb⟩
    have BB := Lib.hid (BA.out.trans (hb.mono BA.out.size))
    clear hb
    go_wp2
    go_ret
    exact ⟨rfl, BB.out⟩
end Go.Proofs.YtcbiomcbkmdhaaaDoor
