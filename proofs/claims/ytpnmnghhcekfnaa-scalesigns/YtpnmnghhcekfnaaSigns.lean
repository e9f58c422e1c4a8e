/- yardlaw5.ScaleSigns answers true for every number; memory that was there stands. -/
import Derived.Test.YtpnmnghhcekfnaaFirst
namespace Go.Proofs.Ytpnmnghhcekfnaa
open Go.RowKit

set_option maxHeartbeats 1000000 in
theorem signs_letters (r n m : Int) (w : World) (h0 : -32768 ≤ n ∧ n ≤ 32767) (hn : sgn r = n) (hnn : sgn n = n) (hm : bits .and .i64 n 65535 = m) (hr : bits .and .i64 r 65535 = m) : Calls Try.prog 8 #[.int .i64 r] w fun e w' => e = .returned (.bool true) ∧ Below w.heap.size w w' := by
  have HN := Lib.hid hn
  have HNN := Lib.hid hnn
  clear hn hnn
  go_enter Try.func8, Try.ntmps8
  go_wp2_with fail
  refine (first_any w).mono ?_
  rintro e w1 ⟨rfl, h⟩
  have HB1 := Lib.hid h
  clear h
  go_wp2_with fail
  refine (signed_any r _).mono ?_
  rintro e w2 ⟨rfl, rfl⟩
  rw [HN.out]
  go_wp2_with fail
  refine (first_any _).mono ?_
  rintro e w2 ⟨rfl, h⟩
  have HB2 := Lib.hid (HB1.out.trans (h.mono HB1.out.size))
  clear h
  go_wp2_with fail
  refine (signed_any n _).mono ?_
  rintro e w3 ⟨rfl, rfl⟩
  rw [HNN.out]
  go_wp2
  go_ret
  exact ⟨rfl, HB2.out⟩
theorem signs_any (r : Int) (w : World) : Calls Try.prog 8 #[.int .i64 r] w fun e w' => e = .returned (.bool true) ∧ Below w.heap.size w w' := by
  refine signs_letters r (sgn r) (r % 65536) w ?_ rfl ?_ ?_ (and_mod r)
  · unfold sgn; omega
  · unfold sgn; omega
  · rw [and_mod]; unfold sgn; omega
end Go.Proofs.Ytpnmnghhcekfnaa
