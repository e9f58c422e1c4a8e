/- yardlaw7.PduRequests, rows that are too long too. -/
import Derived.Test.YtngfaailbkadfaaDoorQ23
import Derived.Test.YtngfaailbkadfaaDoorCards
import Derived.Test.YtngfaailbkadfaaDoorTie
import Derived.Test.YtngfaailbkadfaaDoorLaid
import Derived.SevenTiedAt
namespace Go.Proofs.YtngfaailbkadfaaDoor
open Go.RowKit Go.Extern.Stop Go.Stop Go.Extern

set_option maxRecDepth 100000 in
set_option maxHeartbeats 2000000 in
theorem requests_any (r : Rq) (ra : Option Addr) (rn : Nat) (d : List UInt8) (da : Option Addr) (dn : Nat) (w : World) (hg : ErrT w) (hv : IntsAt w (.slice ra r.vs.length rn) r.vs) (hd : BytesAt w (.slice da d.length dn) d) (hcap : d.length ≤ dn) :
    Calls Tryd.prog 3 #[r.val (.slice ra r.vs.length rn), .slice da d.length dn] w (Fine w) := by
  obtain ⟨f, s, c, vs⟩ := r
  unfold Rq.val
  dsimp only at hv ⊢
  by_cases h1 : vs.length ≤ 3000
  · by_cases h2 : d.length ≤ 3000
    · exact requests_in f s c vs ra rn d da dn w hg hv hd hcap h1 h2
    · have h3 : (vs.length : Int) ≤ 3000 := by omega
      have h4 : (3000 : Int) < (d.length : Int) := by omega
      clear hv hd hcap h1 h2 hg
      obtain ⟨wx, hwx⟩ : ∃ wx, wx = w.alloc (.cells #[.int .i64 f, .int .i64 s, .int .i64 c, .slice ra vs.length rn] 24) := ⟨_, rfl⟩
      have X0 : Hid (Below w.heap.size w wx) := Lib.hid (by rw [hwx]; exact below_new _ _)
      have K2 : Hid (wx.heap[w.heap.size]? = some (.cells #[.int .i64 f, .int .i64 s, .int .i64 c, .slice ra vs.length rn] 24 (0, 0))) := Lib.hid (by rw [hwx]; exact heap_alloc_new w _)
      go_enter Tryd.func3, Tryd.ntmps3
      go_wp2_with fail
      rw [← hwx]
      clear hwx
      refine (first_any _).mono ?_
      rintro e wa ⟨rfl, hb⟩
      have X1 := Lib.hid (X0.out.trans (hb.mono X0.out.size))
      obtain ⟨c0, c1, c2, c3⟩ := cells4' ((hb.block _ (lt_heap K2.out)).trans K2.out)
      clear hb
      go_wp2_with fail
      refine (first_any _).mono ?_
      rintro e wb ⟨rfl, hb⟩
      have BB := Lib.hid (X1.out.trans (hb.mono X1.out.size))
      clear hb
      go_wp2
      go_ret
      exact ⟨rfl, BB.out⟩
  · have h3 : (3000 : Int) < (vs.length : Int) := by omega
    clear hv hd hcap h1 hg
    obtain ⟨wx, hwx⟩ : ∃ wx, wx = w.alloc (.cells #[.int .i64 f, .int .i64 s, .int .i64 c, .slice ra vs.length rn] 24) := ⟨_, rfl⟩
    have X0 : Hid (Below w.heap.size w wx) := Lib.hid (by rw [hwx]; exact below_new _ _)
    have K2 : Hid (wx.heap[w.heap.size]? = some (.cells #[.int .i64 f, .int .i64 s, .int .i64 c, .slice ra vs.length rn] 24 (0, 0))) := Lib.hid (by rw [hwx]; exact heap_alloc_new w _)
    go_enter Tryd.func3, Tryd.ntmps3
    go_wp2_with fail
    rw [← hwx]
    clear hwx
    refine (first_any _).mono ?_
    rintro e wa ⟨rfl, hb⟩
    have X1 := Lib.hid (X0.out.trans (hb.mono X0.out.size))
    obtain ⟨c0, c1, c2, c3⟩ := cells4' ((hb.block _ (lt_heap K2.out)).trans K2.out)
    clear hb
    go_wp2_with fail
    refine (first_any _).mono ?_
    rintro e wb ⟨rfl, hb⟩
    have BB := Lib.hid (X1.out.trans (hb.mono X1.out.size))
    clear hb
    go_wp2
    go_ret
    exact ⟨rfl, BB.out⟩
end Go.Proofs.YtngfaailbkadfaaDoor
/- The given card of yardlaw7.PduRequests: for every request and every row of bytes that can be read the call returns true, each argument reads afterwards as it read before, and no memory that was there has turned; the listed package-level variable is the one that the program's own text lays. -/
namespace Go.Proofs.YtngfaailbkadfaaDoor
open Go.ChangeShapes Go.WideShapes Go.ChangeAt Go.WideMaps Go.WideElems Go.RowKit

set_option maxRecDepth 100000 in
theorem requests_lifted (os : Os) (started : os.Started) (H : Type) (enc : TypeId × Value → H) :
    ReturnsInHanded {} Tryd.checked os 3 .any (fun w args => (Rows.pduRequestsSpec.pre enc Tryd.prog Tryd.f3 [] false w args ∧ laidMetH Tryd.prog laid1 w) ∧ sizedMet enc Tryd.prog Tryd.f3 (OpenSpec.ofChange Rows.pduRequestsSpec) false w args)
      (Rows.pduRequestsSpec.post enc Tryd.prog Tryd.f3 false true false false) := by
  refine returnsInHanded_of_change_and (C := Tryd.checked) (X := fun w _ => laidMetH Tryd.prog laid1 w) (fun _ _ _ hh h => h.of_heap hh) own started (by kernel_rfl) Tryd.func3
    (ChangeSpec.witness_shaped (enc := enc) (C := Tryd.checked) (os := os) (X := fun w _ => laidMetH Tryd.prog laid1 w) false (World.doorLaid Tryd.prog 8 os) #[.agg #[.int .i64 0, .int .i64 0, .int .i64 0, .slice none 0 0], .slice none 0 0] 8 rfl (World.shaped_of_RefB (by kernel_rfl) (by kernel_rfl)) (by kernel_rfl) (by kernel_rfl) (by kernel_rfl) (door_met os _)) ?_
  intro W base args ds gs before hval0 hW _ _ hL _
  have hval : ∀ (j : Nat) t v, Tryd.f3.params[j]? = some t → args[j]? = some v → Value.okWide Tryd.prog W .any base t v := hval0
  have hW' := hW
  obtain ⟨p, q, hA0, hV, rfl, hfz, hnd⟩ := hW
  have hA : DataW.TrodAll enc Tryd.prog W 0 (fun _ => true) true Tryd.f3.params.toList args.toList ds p := hA0
  rw [Tryd.params3] at hA hval
  obtain ⟨v0, v1, d0, d1, p0, p1, rfl, rfl, rfl, h0, h1⟩ := trodAll_two hA
  obtain ⟨rfl, rfl⟩ := trodVars_none hV
  clear hA0 hval0
  simp only [List.append_nil] at hW'
  obtain ⟨r, u, rfl, hi⟩ := open_req (hval 0 24 v0 rfl rfl) h0
  obtain ⟨l1, ao1, c1, rfl, hb1, hm1, hc1⟩ := open_bytes_arg (hval 1 25 v1 rfl rfl) h1
  have hlt0 : ∀ x ∈ p0, x.block < W.heap.size := fun x hx => by simpa using hW'.lt x (by simp [hx])
  have hlt1 : ∀ x ∈ p1, x.block < W.heap.size := fun x hx => by simpa using hW'.lt x (by simp [hx])
  obtain ⟨ra, rn, rfl, _⟩ := id hi
  refine (requests_any r ra rn l1 ao1 c1 W (errT_of_laid hL) hi hb1 hc1).mono fun e W' ⟨he, hb⟩ => ?_
  subst he
  refine ⟨_, rfl, _, _, _, [], p0 ++ p1, [], hW', ?_, ?_, rfl, hb.frame _, fun h => by cases h⟩
  · exact trodAll_mk1 (shut_bool Tryd.underlying4 true)
  · exact trodAll_mk2 (Below.trod laidOut (by kernel_rfl) (of_decide_eq_true (by kernel_rfl)) h0 hb hlt0) (Below.trod laidOut (by kernel_rfl) (of_decide_eq_true (by kernel_rfl)) h1 hb hlt1)

theorem requests_said : Rows.PduRequestsSaid :=
  OpenClaim.holds_of_wide 3 Tryd.f3 rfl rfl rfl rfl rfl rfl rfl ⟨rfl, rfl, rfl, rfl, rfl⟩ rfl rfl rfl rfl rfl (by kernel_rfl) Tryd.func3 (by kernel_rfl)
    (of_decide_eq_true (by kernel_rfl)) (by unfold Func.isWrapper; rw [if_neg (of_decide_eq_false (by kernel_rfl))]; exact ⟨rfl, rfl⟩)
    (fun os started H enc _ => requests_lifted os started H enc)

theorem requests_plain (f : FuncId) (fn : Func) (hf : Tryd.pinned.checked.prog.funcNamed "switchyard/yardlaw7.PduRequests" = some f) (hfn : Tryd.pinned.checked.prog.funcs[f]? = some fn) :
    true = Tryd.pinned.checked.prog.looks [] ∧ ∀ (j : Nat) t, fn.params[j]? = some t → Tryd.pinned.checked.prog.wantsStandIn t = false := by
  obtain rfl : f = 3 := Option.some.inj ((show Tryd.prog.funcNamed "switchyard/yardlaw7.PduRequests" = some 3 by kernel_rfl).symm.trans hf) |>.symm
  obtain rfl : fn = Tryd.f3 := (Option.some.inj (Tryd.func3.symm.trans hfn)).symm
  refine ⟨by kernel_rfl, fun j t ht => ?_⟩
  rw [Tryd.params3] at ht
  have hm := Array.mem_of_getElem? ht
  simp only [List.mem_toArray, List.mem_cons, List.not_mem_nil, or_false] at hm
  rcases hm with rfl | rfl
  · exact (show Tryd.prog.wantsStandIn 24 = false by kernel_rfl)
  · exact (show Tryd.prog.wantsStandIn 25 = false by kernel_rfl)

theorem requests_card : Rows.PduRequestsCardSaid :=
  Claim7.holds_tied_plain_at .later [] _ _ _ _ requests_said (fun _ h => by cases h) (by kernel_rfl) (fun _ h => by cases h) pduRequests_row_tie rfl ⟨rfl, rfl⟩ (by kernel_rfl) rfl requests_plain (by kernel_rfl)
#print axioms requests_card
end Go.Proofs.YtngfaailbkadfaaDoor
