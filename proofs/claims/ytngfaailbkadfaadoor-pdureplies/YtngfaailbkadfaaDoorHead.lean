/- pdu.putHead, fault, bytes.Equal: what a request begins with. -/
import Derived.Test.YtngfaailbkadfaaDoorPut
namespace Go.Proofs.YtngfaailbkadfaaDoor
open Go.RowKit Go.Extern.Stop Go.Stop Go.Extern
set_option maxRecDepth 100000

theorem St.below {W0 w : World} {b : Nat} {l : List UInt8} (h : St W0 b l w) : Below W0.heap.size W0 w := by
  obtain ⟨v, h1, h2⟩ := h
  exact h2
theorem keeps_new (w : World) (o : Obj) : Keeps w (w.alloc o) := Keeps.of (below_new _ _)
/-- A request's box. -/
def BoxR (w : World) (k : Nat) (f s c : Int) (v : Value) : Prop := w.heap[k]? = some (.cells #[.int .i64 f, .int .i64 s, .int .i64 c, v] 24 (0, 0))
theorem BoxR.keeps {w w' : World} {k : Nat} {f s c : Int} {v : Value} (h : BoxR w k f s c v) (hk : Keeps w w') : BoxR w' k f s c v := hk k _ 24 (by decide) (by decide) h
set_option maxHeartbeats 1000000 in
theorem puth_any (W0 w : World) (b : Nat) (l : List UInt8) (r : Rq) (v : Value) (h : St W0 b l w) (hv : IntsAt W0 v r.vs) (hm : r.may = true) (hll : l.length ≤ 100000) : Calls Tryd.prog 26 #[.pointer (some ⟨b, 0, none⟩), r.val v] w (PutsF W0 w b l (headF r)) := by
  obtain ⟨f, s, c, vs⟩ := r
  unfold Rq.val
  dsimp only at hv ⊢
  have HV := Lib.hid hv
  have HL := Lib.hid hll
  have HF := Lib.hid (f_ok hm)
  have HS := Lib.hid (s_ok hm)
  have HW := Lib.hid (word_ok hm)
  have HO := Lib.hid (wordOk_of hm)
  have HH : Hid (headF ⟨f, s, c, vs⟩ = be 1 f ++ (be 2 s ++ be 2 (wordF ⟨f, s, c, vs⟩))) := Lib.hid rfl
  obtain ⟨wx, hwx⟩ : ∃ wx, wx = w.alloc (.cells #[.int .i64 f, .int .i64 s, .int .i64 c, v] 24) := ⟨_, rfl⟩
  have H0 : Hid (St W0 b l wx) := Lib.hid (by rw [hwx]; exact h.on (below_new w _))
  have K0 : Hid (Keeps w wx) := Lib.hid (by rw [hwx]; exact keeps_new w _)
  have B0 : Hid (BoxR wx w.heap.size f s c v) := Lib.hid (by rw [hwx]; exact heap_alloc_new w _)
  clear h hv hm hll
  go_enter Tryd.func26, Tryd.ntmps26
  go_wp2_with fail
  rw [← hwx]
  clear hwx
  refine (st_b W0 wx b l 1 f H0.out (by have := HL.out; omega) (u1 (by have := HF.out; omega) (by have := HF.out; omega))).mono ?_
  rintro e w1 ⟨rfl, hs, hk⟩
  have H1 := Lib.hid hs
  have K1 := Lib.hid (K0.out.trans hk)
  have B1 := Lib.hid (B0.out.keeps hk)
  obtain ⟨c0, c1, c2, c3⟩ := cells4 B1.out
  clear hs hk
  go_wp2_with fail
  refine (st_b W0 w1 b _ 2 s H1.out (by rw [List.length_append, be_length]; have := HL.out; omega) (u2 (by have := HS.out; omega) (by have := HS.out; omega))).mono ?_
  rintro e w2 ⟨rfl, hs, hk⟩
  have H2 := Lib.hid hs
  have K2 := Lib.hid (K1.out.trans hk)
  have B2 := Lib.hid (B1.out.keeps hk)
  clear hs hk c0 c1 c2 c3
  obtain ⟨c0, c1, c2, c3⟩ := cells4 B2.out
  go_wp2_with fail
  refine (wordof_any ⟨f, s, c, vs⟩ v w2 (HV.out.on H2.out.below) HO.out).mono ?_
  rintro e w3 ⟨rfl, hb⟩
  have H3 := Lib.hid (H2.out.on hb)
  have K3 := Lib.hid (K2.out.trans (Keeps.of hb))
  clear hb c0 c1 c2 c3
  go_wp2_with fail
  refine (st_b W0 w3 b _ 2 _ H3.out (by rw [List.length_append, List.length_append, be_length, be_length]; have := HL.out; omega) (u2 HW.out.1 HW.out.2)).mono ?_
  rintro e w4 ⟨rfl, hs, hk⟩
  have H4 : Hid (PutsF W0 w b l (headF ⟨f, s, c, vs⟩) (.returned (.tuple #[])) w4) := Lib.hid ⟨rfl, by rw [HH.out]; rw [List.append_assoc, List.append_assoc] at hs; exact hs, K3.out.trans hk⟩
  clear hs hk
  go_wp2
  go_end0
  exact H4.out

/-- An error of the package. -/
def sPdu : ByteArray := ⟨#[112, 100, 117]⟩
def PErr (w : World) (x c : Int) (v : Value) : Prop := ∃ b : Nat, v = .iface 113 (.pointer (some ⟨b, 0, none⟩)) ∧ w.heap[b]? = some (.cells #[.string sPdu, .int .i64 x, .iface 32 (.int .i64 c)] 116 (0, 0))
theorem PErr.on {w w' : World} {x c : Int} {v : Value} (h : PErr w x c v) (hb : Below w.heap.size w w') : PErr w' x c v := by
  obtain ⟨b, h1, h2⟩ := h
  exact ⟨b, h1, (hb.block b (lt_heap h2)).trans h2⟩
theorem pfault_any (x c : Int) (w : World) : Calls Tryd.prog 24 #[.int .i64 x, .int .i64 c] w fun e w' => (∃ v, e = .returned v ∧ PErr w' x c v) ∧ Below w.heap.size w w' := by
  go_enter Tryd.func24, Tryd.ntmps24
  go_wp2_with fail
  refine (in_some _ _ _ _ _).mono ?_
  rintro e w1 ⟨rfl, rfl⟩
  go_wp2
  go_ret
  exact ⟨⟨_, rfl, w.heap.size, rfl, heap_alloc_new w _⟩, below_new _ _⟩
theorem PErr.form {w : World} {x c : Int} {v : Value} (h : PErr w x c v) : ∃ b : Nat, v = .iface 113 (.pointer (some ⟨b, 0, none⟩)) := by
  obtain ⟨b, h1, _⟩ := h
  exact ⟨b, h1⟩
/-- bytes.Equal. -/
theorem bequal_any (u v : Value) (l m : List UInt8) (w : World) (hu : BytesAt w u l) (hv : BytesAt w v m) : Calls Tryd.prog 33 #[u, v] w fun e w' => e = .returned (.bool (l == m)) ∧ w = w' := by
  have c1 := conv_bytes w u l hu
  have c2 := conv_bytes w v m hv
  clear hu hv
  go_enter Tryd.func33, Tryd.ntmps33
  go_wp2
  go_ret
  exact ⟨rfl, rfl⟩
end Go.Proofs.YtngfaailbkadfaaDoor
