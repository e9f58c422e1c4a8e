/- pdu.Encode: the bytes of a valid request; the error of any other. -/
import Derived.Test.YtngfaailbkadfaaDoorHead
namespace Go.Proofs.YtngfaailbkadfaaDoor
open Go.RowKit Go.Extern.Stop Go.Stop Go.Extern
set_option maxRecDepth 100000

theorem BoxR.on {w w' : World} {k : Nat} {f s c : Int} {v : Value} (h : BoxR w k f s c v) (hb : Below w.heap.size w w') : BoxR w' k f s c v := (hb.block k (lt_heap h)).trans h
/-- A tuple of bytes and no error. -/
def BytesOk (w : World) (l : List UInt8) (e : Ending) (w' : World) : Prop := ∃ x, e = .returned (.tuple #[x, .nilIface]) ∧ w'.ownsRow w.heap.size 5 1 x l.length (bcells l) ∧ Below w.heap.size w w'
/-- A tuple of no bytes and an error. -/
def BytesNo (w : World) (x c : Int) (e : Ending) (w' : World) : Prop := ∃ v, e = .returned (.tuple #[.slice none 0 0, v]) ∧ PErr w' x c v ∧ Below w.heap.size w w'
theorem isFn_of {r : Rq} (h : r.may = true) : isFn r.f = true := by
  have := (may_iff.1 h).1
  simp [isFn]
  omega
set_option maxRecDepth 100000 in
set_option maxHeartbeats 2000000 in
theorem enc_ok (r : Rq) (v : Value) (w : World) (hv : IntsAt w v r.vs) (hm : r.may = true) (hl : r.vs.length ≤ 100000) : Calls Tryd.prog 7 #[r.val v] w (BytesOk w (encF r)) := by
  obtain ⟨f, s, c, vs⟩ := r
  unfold Rq.val
  dsimp only at hv hl ⊢
  have HV := Lib.hid hv
  have HL := Lib.hid hl
  have HM := Lib.hid hm
  have HI := Lib.hid (isFn_of hm)
  have HE : Hid (encF ⟨f, s, c, vs⟩ = headF ⟨f, s, c, vs⟩ ++ (if f = 15 ∨ f = 16 then putF f vs else [])) := Lib.hid rfl
  have HLE := Lib.hid (encF_length hm)
  have HHL := Lib.hid (headF_length ⟨f, s, c, vs⟩)
  obtain ⟨ao, cap, rfl, _⟩ := id hv
  obtain ⟨wx, hwx⟩ : ∃ wx, wx = w.alloc (.cells #[.int .i64 f, .int .i64 s, .int .i64 c, .slice ao vs.length cap] 24) := ⟨_, rfl⟩
  have X0 : Hid (Below w.heap.size w wx) := Lib.hid (by rw [hwx]; exact below_new w _)
  have B0 : Hid (BoxR wx w.heap.size f s c (.slice ao vs.length cap)) := Lib.hid (by rw [hwx]; exact heap_alloc_new w _)
  have V0 : Hid (IntsAt wx (.slice ao vs.length cap) vs) := Lib.hid (HV.out.on X0.out)
  clear hv hm hl
  go_enter Tryd.func7, Tryd.ntmps7
  go_wp2_with fail
  rw [← hwx]
  clear hwx
  refine (isfn_any f wx).mono ?_
  rintro e w1 ⟨rfl, hb⟩
  rw [HI.out]
  have X1 := Lib.hid hb
  have B1 := Lib.hid (B0.out.on hb)
  clear hb
  obtain ⟨c0, c1, c2, c3⟩ := cells4 B1.out
  go_wp2_with fail
  refine (may_any f s c _ vs w1 (V0.out.on X1.out) HL.out).mono ?_
  rintro e w2 ⟨rfl, hb⟩
  have hmm : mayB f s c vs = true := HM.out
  rw [hmm]
  clear hmm
  have X2 := Lib.hid (X1.out.trans (hb.mono X1.out.size))
  have B2 := Lib.hid (B1.out.on hb)
  clear hb c0 c1 c2 c3
  go_wp2_with fail
  refine (new_writer w2).mono ?_
  rintro e w3 ⟨rfl, rfl⟩
  have S3 := Lib.hid (St.new w2)
  have B3 := Lib.hid (B2.out.on (below_new w2 (.cells #[.slice none 0 0] 95)))
  obtain ⟨w3, hw3⟩ : ∃ x, x = w2.alloc (.cells #[.slice none 0 0] 95) := ⟨_, rfl⟩
  rw [← hw3] at S3 B3 ⊢
  clear hw3
  obtain ⟨c0, c1, c2, c3⟩ := cells4 B3.out
  go_wp2_with fail
  refine (puth_any w2 w3 _ [] ⟨f, s, c, vs⟩ _ S3.out (V0.out.on X2.out) HM.out (by simp)).mono ?_
  rintro e w4 ⟨rfl, hs, hk⟩
  have S4 := Lib.hid hs
  have B4 := Lib.hid (B3.out.keeps hk)
  clear hs hk c0 c1 c2 c3
  obtain ⟨c0, c1, c2, c3⟩ := cells4 B4.out
  generalize headF ⟨f, s, c, vs⟩ = hd at *
  have finish : ∀ (l : List UInt8) (w5 : World), St w2 w2.heap.size l w5 → encF ⟨f, s, c, vs⟩ = l → Hid (Calls Tryd.prog 28 #[.pointer (some ⟨w2.heap.size, 0, none⟩)] w5 (CopyIs w l)) := fun l w5 h he => Lib.hid ((st_out w2 w5 _ l h (by rw [← he]; have := HLE.out; omega)).mono fun e w6 h6 => h6.up (X0.out.trans ((X2.out.trans (h.below.mono X2.out.size)).mono X0.out.size)))
  by_cases hf : f = 15 ∨ f = 16
  · have hk : ValsOk f vs ∧ (dataF f vs).length ≤ 246 := by
      cases kind_of HM.out with
      | many _ _ _ _ _ hv hd => exact ⟨hv, hd⟩
      | _ => dsimp only at *; omega
    have HK := Lib.hid hk
    have HE2 : Hid (encF ⟨f, s, c, vs⟩ = hd ++ putF f vs) := Lib.hid (by rw [HE.out, if_pos hf])
    have HF := Lib.hid hf
    clear hk
    rcases hf with rfl | rfl <;> (
      go_wp2_with fail
      refine (putv_any w2 w4 _ _ _ _ vs S4.out (V0.out.on (X2.out.trans (S4.out.below.mono X2.out.size))) HK.out.1 HL.out (by have := HK.out.2; omega) (by rw [List.nil_append]; have := HHL.out; omega)).mono ?_
      rintro e w5 ⟨rfl, hs, hk⟩
      have H5 := finish _ w5 hs (by simpa using HE2.out)
      clear hs hk c0 c1 c2 c3
      go_wp2_with fail
      refine H5.out.mono ?_
      rintro e w6 ⟨x, rfl, hx, hb⟩
      have H6 : Hid (BytesOk w (encF ⟨_, s, c, vs⟩) (.returned (.tuple #[x, .nilIface])) w6) := Lib.hid ⟨x, rfl, by rw [HE2.out]; simpa using hx, hb⟩
      clear hx hb
      go_wp2
      go_ret2
      exact H6.out)
  · have n15 : (f == 15) = false := by simp; omega
    have n16 : (f == 16) = false := by simp; omega
    have HE2 : Hid (encF ⟨f, s, c, vs⟩ = hd) := Lib.hid (by rw [HE.out, if_neg hf, List.append_nil])
    have H5 := finish _ w4 S4.out (by simpa using HE2.out)
    clear hf
    go_wp2_with fail
    refine H5.out.mono ?_
    rintro e w6 ⟨x, rfl, hx, hb⟩
    have H6 : Hid (BytesOk w (encF ⟨f, s, c, vs⟩) (.returned (.tuple #[x, .nilIface])) w6) := Lib.hid ⟨x, rfl, by rw [HE2.out]; simpa using hx, hb⟩
    clear hx hb
    go_wp2
    go_ret2
    exact H6.out

/-- The code with which a request is refused. -/
def encCode (r : Rq) : Int := if isFn r.f = true then 1 else 6
set_option maxHeartbeats 2000000 in
theorem enc_no (r : Rq) (v : Value) (w : World) (hv : IntsAt w v r.vs) (hm : r.may = false) (hl : r.vs.length ≤ 100000) : Calls Tryd.prog 7 #[r.val v] w (BytesNo w r.f (encCode r)) := by
  obtain ⟨f, s, c, vs⟩ := r
  unfold Rq.val
  dsimp only at hv hl ⊢
  have HV := Lib.hid hv
  have HL := Lib.hid hl
  have HM := Lib.hid hm
  have HC : Hid (encCode ⟨f, s, c, vs⟩ = if isFn f = true then 1 else 6) := Lib.hid rfl
  obtain ⟨ao, cap, rfl, _⟩ := id hv
  obtain ⟨wx, hwx⟩ : ∃ wx, wx = w.alloc (.cells #[.int .i64 f, .int .i64 s, .int .i64 c, .slice ao vs.length cap] 24) := ⟨_, rfl⟩
  have X0 : Hid (Below w.heap.size w wx) := Lib.hid (by rw [hwx]; exact below_new w _)
  have B0 : Hid (BoxR wx w.heap.size f s c (.slice ao vs.length cap)) := Lib.hid (by rw [hwx]; exact heap_alloc_new w _)
  have V0 : Hid (IntsAt wx (.slice ao vs.length cap) vs) := Lib.hid (HV.out.on X0.out)
  clear hv hm hl
  generalize encCode ⟨f, s, c, vs⟩ = code at *
  rcases Bool.eq_false_or_eq_true (isFn f) with hi | hi
  · have HI := Lib.hid hi
    rw [hi, if_pos rfl] at HC
    have hc := HC.out
    subst hc
    clear hi HC
    go_enter Tryd.func7, Tryd.ntmps7
    go_wp2_with fail
    rw [← hwx]
    clear hwx
    refine (isfn_any f wx).mono ?_
    rintro e w1 ⟨rfl, hb⟩
    rw [HI.out]
    have X1 := Lib.hid hb
    have B1 := Lib.hid (B0.out.on hb)
    clear hb
    obtain ⟨c0, c1, c2, c3⟩ := cells4 B1.out
    go_wp2_with fail
    refine (may_any f s c _ vs w1 (V0.out.on X1.out) HL.out).mono ?_
    rintro e w2 ⟨rfl, hb⟩
    have hmm : mayB f s c vs = false := HM.out
    rw [hmm]
    clear hmm
    have X2 := Lib.hid (X0.out.trans ((X1.out.trans (hb.mono X1.out.size)).mono X0.out.size))
    have B2 := Lib.hid (B1.out.on hb)
    clear hb c0 c1 c2 c3
    obtain ⟨c0, c1, c2, c3⟩ := cells4 B2.out
    go_wp2_with fail
    refine (pfault_any f 1 w2).mono ?_
    rintro e w3 ⟨⟨x, rfl, hx⟩, hb⟩
    obtain ⟨bx, rfl⟩ := hx.form
    have H3 : Hid (BytesNo w f 1 (.returned (.tuple #[.slice none 0 0, .iface 113 (.pointer (some ⟨bx, 0, none⟩))])) w3) := Lib.hid ⟨_, rfl, hx, X2.out.trans (hb.mono X2.out.size)⟩
    clear hx hb c0 c1 c2 c3
    go_wp2
    go_ret2
    exact H3.out
  · have HI := Lib.hid hi
    rw [hi, if_neg (by simp)] at HC
    have hc := HC.out
    subst hc
    clear hi HC
    go_enter Tryd.func7, Tryd.ntmps7
    go_wp2_with fail
    rw [← hwx]
    clear hwx
    refine (isfn_any f wx).mono ?_
    rintro e w1 ⟨rfl, hb⟩
    rw [HI.out]
    have X1 := Lib.hid (X0.out.trans (hb.mono X0.out.size))
    have B1 := Lib.hid (B0.out.on hb)
    clear hb
    obtain ⟨c0, c1, c2, c3⟩ := cells4 B1.out
    go_wp2_with fail
    refine (pfault_any f 6 w1).mono ?_
    rintro e w3 ⟨⟨x, rfl, hx⟩, hb⟩
    obtain ⟨bx, rfl⟩ := hx.form
    have H3 : Hid (BytesNo w f 6 (.returned (.tuple #[.slice none 0 0, .iface 113 (.pointer (some ⟨bx, 0, none⟩))])) w3) := Lib.hid ⟨_, rfl, hx, X1.out.trans (hb.mono X1.out.size)⟩
    clear hx hb c0 c1 c2 c3
    go_wp2
    go_ret2
    exact H3.out
end Go.Proofs.YtngfaailbkadfaaDoor
