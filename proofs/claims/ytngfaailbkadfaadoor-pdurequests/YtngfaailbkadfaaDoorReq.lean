/- yardlaw7.PduRequests, rows that are too long too. -/
import Derived.Test.YtngfaailbkadfaaDoorQ23
namespace Go.Proofs.YtngfaailbkadfaaDoor
open Go.RowKit Go.Extern.Stop Go.Stop Go.Extern

set_option maxRecDepth 100000 in
set_option maxHeartbeats 2000000 in
theorem requests_any (r : Rq) (ra : Option Addr) (rn : Nat) (d : List UInt8) (da : Option Addr) (dn : Nat) (w : World) (hg : ErrT w) (hv : IntsAt w (.slice ra r.vs.length rn) r.vs) (hd : BytesAt w (.slice da d.length dn) d) (hcap : d.length ≤ dn) :
    Calls Tryd.prog 3 #[r.val (.slice ra r.vs.length rn), .slice da d.length dn] w (Fine w) := by
  obtain ⟨f, s, c, vs⟩ := r
  unfold Rq.val
  dsimp only at hv ⊢
  by_cases h1 : vs.length ≤ 3000
  · by_cases h2 : d.length ≤ 3000
    · exact requests_in f s c vs ra rn d da dn w hg hv hd hcap h1 h2
    · have h3 : (vs.length : Int) ≤ 3000 := by omega
      have h4 : (3000 : Int) < (d.length : Int) := by omega
      clear hv hd hcap h1 h2 hg
      obtain ⟨wx, hwx⟩ : ∃ wx, wx = w.alloc (.cells #[.int .i64 f, .int .i64 s, .int .i64 c, .slice ra vs.length rn] 24) := ⟨_, rfl⟩
      have X0 : Hid (Below w.heap.size w wx) := Lib.hid (by rw [hwx]; exact below_new _ _)
      have K2 : Hid (wx.heap[w.heap.size]? = some (.cells #[.int .i64 f, .int .i64 s, .int .i64 c, .slice ra vs.length rn] 24 (0, 0))) := Lib.hid (by rw [hwx]; exact heap_alloc_new w _)
      go_enter Tryd.func3, Tryd.ntmps3
      go_wp2_with fail
      rw [← hwx]
      clear hwx
      refine (first_any _).mono ?_
      rintro e wa ⟨rfl, hb⟩
      have X1 := Lib.hid (X0.out.trans (hb.mono X0.out.size))
      obtain ⟨c0, c1, c2, c3⟩ := cells4' ((hb.block _ (lt_heap K2.out)).trans K2.out)
      clear hb
      go_wp2_with fail
      refine (first_any _).mono ?_
      rintro e wb ⟨rfl, hb⟩
      have BB := Lib.hid (X1.out.trans (hb.mono X1.out.size))
      clear hb
      go_wp2
      go_ret
      exact ⟨rfl, BB.out⟩
  · have h3 : (3000 : Int) < (vs.length : Int) := by omega
    clear hv hd hcap h1 hg
    obtain ⟨wx, hwx⟩ : ∃ wx, wx = w.alloc (.cells #[.int .i64 f, .int .i64 s, .int .i64 c, .slice ra vs.length rn] 24) := ⟨_, rfl⟩
    have X0 : Hid (Below w.heap.size w wx) := Lib.hid (by rw [hwx]; exact below_new _ _)
    have K2 : Hid (wx.heap[w.heap.size]? = some (.cells #[.int .i64 f, .int .i64 s, .int .i64 c, .slice ra vs.length rn] 24 (0, 0))) := Lib.hid (by rw [hwx]; exact heap_alloc_new w _)
    go_enter Tryd.func3, Tryd.ntmps3
    go_wp2_with fail
    rw [← hwx]
    clear hwx
    refine (first_any _).mono ?_
    rintro e wa ⟨rfl, hb⟩
    have X1 := Lib.hid (X0.out.trans (hb.mono X0.out.size))
    obtain ⟨c0, c1, c2, c3⟩ := cells4' ((hb.block _ (lt_heap K2.out)).trans K2.out)
    clear hb
    go_wp2_with fail
    refine (first_any _).mono ?_
    rintro e wb ⟨rfl, hb⟩
    have BB := Lib.hid (X1.out.trans (hb.mono X1.out.size))
    clear hb
    go_wp2
    go_ret
    exact ⟨rfl, BB.out⟩
end Go.Proofs.YtngfaailbkadfaaDoor
