/- pdu.Decode: the request that bytes encode, or the error. -/
import Derived.Test.YtngfaailbkadfaaDoorPar
namespace Go.Proofs.YtngfaailbkadfaaDoor
open Go.RowKit Go.Extern.Stop Go.Stop Go.Extern
set_option maxRecDepth 100000

/-- A request and no error; no request and an error. -/
def ReqOk (w : World) (q : Rq) (e : Ending) (w' : World) : Prop := ∃ v, e = .returned (.tuple #[q.val v, .nilIface]) ∧ w'.ownsRow w.heap.size 3 1 v q.vs.length (icells q.vs) ∧ Below w.heap.size w w'
def Rq.zero : Value := .agg #[.int .i64 0, .int .i64 0, .int .i64 0, .slice none 0 0]
def ReqNo (w : World) (x c : Int) (e : Ending) (w' : World) : Prop := ∃ v, e = .returned (.tuple #[Rq.zero, v]) ∧ PErr w' x c v ∧ Below w.heap.size w w'
theorem leNum_one (y : UInt8) : leNum [y] = y.toNat := by simp [leNum]
theorem rdN_first (y : UInt8) (l : List UInt8) : rdN (y :: l) 0 1 = ((y.toNat : Int), 1) := by
  unfold rdN
  rw [if_pos (by simp)]
  simp [leNum]
theorem takeF_length (b : List UInt8) (p : Nat) (f c : Int) (hc : c ≤ 65535) : (takeF b p f c).length ≤ 65535 := by
  unfold takeF valsF
  split
  · rw [unF_length]; omega
  · rw [fwF_length]; omega
theorem parseF_length (b : List UInt8) : (parseF b).vs.length ≤ 65535 := by
  have h := rdN_bounds b (rdN b (rdN b 0 1).2 2).2 2 (by omega)
  unfold parseF
  repeat' split
  · simp
  · simp
  · exact takeF_length _ _ _ _ h.2
  · simp
/-- Do bytes encode the request that they seem to? -/
def decB (b : List UInt8) : Bool := (parseF b).may && (encF (parseF b) == b)
def decCode (b : List UInt8) : Int := if b = [] then 2 else if isFn (rdN b 0 1).1 = true then 4 else 6
theorem decB_iff {b : List UInt8} : decB b = true ↔ (parseF b).may = true ∧ encF (parseF b) = b := by simp [decB]
theorem decB_first {b : List UInt8} (h : decB b = true) : ∃ y l, b = y :: l ∧ isFn (y.toNat : Int) = true := by
  obtain ⟨h1, h2⟩ := decB_iff.1 h
  have h3 := (encF_length h1).1
  rw [h2] at h3
  match b, h3 with
  | y :: l, _ =>
    refine ⟨y, l, rfl, ?_⟩
    have h4 := isFn_of h1
    have h5 : (parseF (y :: l)).f = (rdN (y :: l) 0 1).1 := by
      unfold parseF
      repeat' split
      all_goals rfl
    rw [h5, rdN_first] at h4
    exact h4
theorem bytesAt_cons {w : World} {v : Value} {y : UInt8} {l : List UInt8} (h : BytesAt w v (y :: l)) : ∃ b off cap, v = .slice (some ⟨b, off, none⟩) (l.length + 1) cap ∧ w.cell? ⟨b, off, none⟩ = some (.int .u8 (y.toNat : Int)) := by
  obtain ⟨ao, cap, hv, hc⟩ := h
  obtain ⟨b, off, rfl, hcell⟩ := hc 0 (by simp)
  exact ⟨b, off, cap, hv, by simpa using hcell⟩

set_option maxRecDepth 100000 in
set_option maxHeartbeats 4000000 in
theorem dec_ok (v : Value) (bs : List UInt8) (w : World) (hv : BytesAt w v bs) (hl : bs.length ≤ 100000) (hd : decB bs = true) : Calls Tryd.prog 10 #[v] w (ReqOk w (parseF bs)) := by
  have HV := Lib.hid hv
  have HL := Lib.hid hl
  obtain ⟨wx, hwx⟩ : ∃ wx, wx = w.alloc (.cells #[.int .i64 0, .int .i64 0, .int .i64 0, .slice none 0 0] 24) := ⟨_, rfl⟩
  have X0 : Hid (Below w.heap.size w wx) := Lib.hid (by rw [hwx]; exact below_new w _)
  have B0 : Hid (BoxR wx w.heap.size 0 0 0 (.slice none 0 0)) := Lib.hid (by rw [hwx]; exact heap_alloc_new w _)
  have V0 := Lib.hid (HV.out.on X0.out)
  have HD := Lib.hid (decB_iff.1 hd)
  obtain ⟨y, l, rfl, hf⟩ := decB_first hd
  have HF := Lib.hid hf
  obtain ⟨b, off, cap, rfl, hc0⟩ := bytesAt_cons (HV.out.on X0.out)
  rw [hwx] at hc0
  have hlen : ((l.length : Int) + 1 == 0) = false := by simp; omega
  have z0 : (0 : Int) ≤ (y.toNat : Int) := by omega
  have z1 : (y.toNat : Int) ≤ 255 := by have := byte_lt y; omega
  generalize (y.toNat : Int) = z at HF hf hc0 z0 z1
  clear hv hl hd hf
  · go_enter Tryd.func10, Tryd.ntmps10
    go_wp2_with fail
    rw [← hwx]
    clear hwx
    have HP := Lib.hid (parseF_length (y :: l))
    clear hc0
    refine (isfn_any z wx).mono ?_
    rintro e w1 ⟨rfl, hb⟩
    rw [HF.out]
    have X1 := Lib.hid hb
    have B1 := Lib.hid (B0.out.on hb)
    clear hb
    go_wp2_with fail
    refine (parse_any _ (y :: l) w1 (V0.out.on X1.out) HL.out).mono ?_
    rintro e w2 ⟨v2, rfl, hv2, hb⟩
    have X2 := Lib.hid (X1.out.trans (hb.mono X1.out.size))
    have B2 := Lib.hid (B1.out.on hb)
    have V2 := Lib.hid (intsAt_own hv2)
    have O2 := Lib.hid hv2
    have HSZ : Hid (w.heap.size < w1.heap.size) := Lib.hid (lt_heap B1.out)
    clear hb
    generalize parseF (y :: l) = q at *
    obtain ⟨f, s, c, vs⟩ := q
    unfold Rq.val
    dsimp only at HP V2 O2 hv2 ⊢
    obtain ⟨a2, k2, rfl⟩ := row_slice hv2
    clear hv2
    obtain ⟨w3, hw3⟩ : ∃ x, x = w2.alloc (.cells #[.int .i64 f, .int .i64 s, .int .i64 c, .slice a2 vs.length k2] 24) := ⟨_, rfl⟩
    have X3 : Hid (Below wx.heap.size wx w3) := Lib.hid (by rw [hw3]; exact X2.out.trans ((below_new w2 _).mono X2.out.size))
    have B3 : Hid (BoxR w3 w.heap.size 0 0 0 (.slice none 0 0) ∧ BoxR w3 w2.heap.size f s c (.slice a2 vs.length k2)) := Lib.hid (by rw [hw3]; exact ⟨B2.out.on (below_new _ _), heap_alloc_new w2 _⟩)
    have O3 : Hid (w3.ownsRow w1.heap.size 3 1 (.slice a2 vs.length k2) vs.length (icells vs)) := Lib.hid (by rw [hw3]; exact ownsRow_off O2.out (Off.of_below (fun _ => False) (below_new w2 _)) (fun _ _ f => f))
    have V3 : Hid (IntsAt w3 (.slice a2 vs.length k2) vs) := Lib.hid (by rw [hw3]; exact V2.out.on (below_new _ _))
    have Y3 : Hid (BytesAt w3 (.slice (some ⟨b, off, none⟩) (l.length + 1) cap) (y :: l)) := Lib.hid (V0.out.on X3.out)
    go_wp2_with fail
    rw [← hw3]
    clear hw3
    refine (enc_ok ⟨f, s, c, vs⟩ _ w3 V3.out HD.out.1 (by show vs.length ≤ 100000; have := HP.out; omega)).mono ?_
    rintro e w4 ⟨x4, rfl, hx4, hb⟩
    rw [HD.out.2] at hx4
    obtain ⟨a4, k4, rfl, _⟩ := bytesAt_own hx4
    have Z4 := Lib.hid (bytesAt_own hx4)
    have X4 := Lib.hid (X0.out.trans ((X3.out.trans (hb.mono X3.out.size)).mono X0.out.size))
    have B4 : Hid (BoxR w4 w.heap.size 0 0 0 (.slice none 0 0)) := Lib.hid (B3.out.1.on hb)
    have B5 : Hid (BoxR w4 w2.heap.size f s c (.slice a2 vs.length k2)) := Lib.hid (B3.out.2.on hb)
    have O4 := Lib.hid (ownsRow_off O3.out (Off.of_below (fun _ => False) hb) (fun _ _ f => f))
    have Y4 := Lib.hid (Y3.out.on hb)
    clear hx4 hb
    go_wp2_with fail
    refine (bequal_any _ _ _ _ w4 Z4.out Y4.out).mono ?_
    rintro e w5 ⟨rfl, rfl⟩
    rw [beq_self_eq_true]
    obtain ⟨c0, c1, c2, c3⟩ := cells4 B4.out
    have g0 : ∀ o, w4.frozen? ⟨w.heap.size, o, none⟩ = false := fun o => frozen_of_row _ _ _ _ _ B4.out
    have g0' := g0 0
    have g1' := g0 1
    have g2' := g0 2
    have g3' := g0 3
    clear g0
    obtain ⟨e0, e1, e2, e3⟩ := cells4 B5.out
    have HF : Hid (BoxR (fin4 w4 w.heap.size f s c (.slice a2 vs.length k2)) w.heap.size f s c (.slice a2 vs.length k2) ∧ ReqOk w ⟨f, s, c, vs⟩ (.returned (.tuple #[Rq.val ⟨f, s, c, vs⟩ (.slice a2 vs.length k2), .nilIface])) (fin4 w4 w.heap.size f s c (.slice a2 vs.length k2))) := Lib.hid ⟨fin4_box B4.out _ _ _ _, _, rfl, ownsRow_base (ownsRow_off O4.out (fin4_off _ _ _ _ _ _) (fun k e s => by have := (O4.out.lt k e).1; have := HSZ.out; omega)) (Nat.le_of_lt HSZ.out), fin4_below X4.out _ _ _ _⟩
    unfold fin4 at HF
    go_wp2
    generalize (World.setCell (World.setCell (World.setCell (World.setCell w4 _ _) _ _) _ _) _ _) = W at HF ⊢
    obtain ⟨d0, d1, d2, d3⟩ := cells4 HF.out.1
    refine bodyPost_ret (v := .tuple #[Rq.val ⟨f, s, c, vs⟩ (.slice a2 vs.length k2), .nilIface]) ?_ rfl HF.out.2
    simp [results, Tryd.results10, go_sem, d0, d1, d2, d3, Rq.val]

theorem PErr.off {w w' : World} {x c : Int} {v : Value} {k : Nat} (h : PErr w x c v) (ho : Off (fun j => j = k) w w') {f s cc : Int} {V : Value} (hb : BoxR w k f s cc V) : PErr w' x c v := by
  obtain ⟨b, h1, h2⟩ := h
  refine ⟨b, h1, (ho.block b (lt_heap h2) (fun e => ?_)).trans h2⟩
  unfold BoxR at hb
  rw [← e, h2] at hb
  simp at hb
set_option maxRecDepth 100000 in
set_option maxHeartbeats 4000000 in
theorem dec_nil (v : Value) (w : World) (hv : BytesAt w v []) : Calls Tryd.prog 10 #[v] w (ReqNo w 0 2) := by
  have hl : (0 : Nat) ≤ 100000 := by omega
  have HV := Lib.hid hv
  have HL := Lib.hid hl
  obtain ⟨wx, hwx⟩ : ∃ wx, wx = w.alloc (.cells #[.int .i64 0, .int .i64 0, .int .i64 0, .slice none 0 0] 24) := ⟨_, rfl⟩
  have X0 : Hid (Below w.heap.size w wx) := Lib.hid (by rw [hwx]; exact below_new w _)
  have B0 : Hid (BoxR wx w.heap.size 0 0 0 (.slice none 0 0)) := Lib.hid (by rw [hwx]; exact heap_alloc_new w _)
  have V0 := Lib.hid (HV.out.on X0.out)
  obtain ⟨ao, cap, rfl, _⟩ := id hv
  have X1 : Hid (Below wx.heap.size wx wx) := Lib.hid (Below.refl _ _)
  clear hv hl
  · go_enter Tryd.func10, Tryd.ntmps10
    go_wp2_with fail
    rw [← hwx]
    clear hwx
    refine (pfault_any (0) 2 wx).mono ?_
    rintro e we ⟨⟨xx, rfl, hx⟩, hb⟩
    obtain ⟨bx, rfl⟩ := hx.form
    have HX := Lib.hid hx
    have BE := Lib.hid (BoxR.on B0.out hb)
    have XE := Lib.hid ((X0.out.trans (X1.out.mono X0.out.size)).trans (hb.mono (X0.out.trans (X1.out.mono X0.out.size)).size))
    clear hx hb
    obtain ⟨c0, c1, c2, c3⟩ := cells4 BE.out
    have g0 : ∀ o, we.frozen? ⟨w.heap.size, o, none⟩ = false := fun o => frozen_of_row _ _ _ _ _ BE.out
    have g0' := g0 0
    have g1' := g0 1
    have g2' := g0 2
    have g3' := g0 3
    clear g0
    have HF : Hid (BoxR (fin4 we w.heap.size 0 0 0 (.slice none 0 0)) w.heap.size 0 0 0 (.slice none 0 0) ∧ ReqNo w (0) 2 (.returned (.tuple #[Rq.zero, .iface 113 (.pointer (some ⟨bx, 0, none⟩))])) (fin4 we w.heap.size 0 0 0 (.slice none 0 0))) := Lib.hid ⟨fin4_box BE.out _ _ _ _, _, rfl, PErr.off HX.out (fin4_off _ _ _ _ _ _) BE.out, fin4_below XE.out _ _ _ _⟩
    unfold fin4 at HF
    go_wp2
    generalize (World.setCell (World.setCell (World.setCell (World.setCell we _ _) _ _) _ _) _ _) = W at HF ⊢
    obtain ⟨d0, d1, d2, d3⟩ := cells4 HF.out.1
    refine bodyPost_ret (v := .tuple #[Rq.zero, .iface 113 (.pointer (some ⟨bx, 0, none⟩))]) ?_ rfl HF.out.2
    simp [results, Tryd.results10, go_sem, d0, d1, d2, d3, Rq.zero]

set_option maxRecDepth 100000 in
set_option maxHeartbeats 4000000 in
theorem dec_kind (v : Value) (y : UInt8) (l : List UInt8) (w : World) (hv : BytesAt w v (y :: l)) (hf : isFn (y.toNat : Int) = false) : Calls Tryd.prog 10 #[v] w (ReqNo w (y.toNat : Int) 6) := by
  have hl : (0 : Nat) ≤ 100000 := by omega
  have HV := Lib.hid hv
  have HL := Lib.hid hl
  obtain ⟨wx, hwx⟩ : ∃ wx, wx = w.alloc (.cells #[.int .i64 0, .int .i64 0, .int .i64 0, .slice none 0 0] 24) := ⟨_, rfl⟩
  have X0 : Hid (Below w.heap.size w wx) := Lib.hid (by rw [hwx]; exact below_new w _)
  have B0 : Hid (BoxR wx w.heap.size 0 0 0 (.slice none 0 0)) := Lib.hid (by rw [hwx]; exact heap_alloc_new w _)
  have V0 := Lib.hid (HV.out.on X0.out)
  have HF := Lib.hid hf
  obtain ⟨b, off, cap, rfl, hc0⟩ := bytesAt_cons (HV.out.on X0.out)
  rw [hwx] at hc0
  have hlen : ((l.length : Int) + 1 == 0) = false := by simp; omega
  have z0 : (0 : Int) ≤ (y.toNat : Int) := by omega
  have z1 : (y.toNat : Int) ≤ 255 := by have := byte_lt y; omega
  generalize (y.toNat : Int) = z at HF hf hc0 z0 z1 ⊢
  clear hv hl hf
  · go_enter Tryd.func10, Tryd.ntmps10
    go_wp2_with fail
    rw [← hwx]
    clear hwx
    clear hc0
    refine (isfn_any z wx).mono ?_
    rintro e w1 ⟨rfl, hb⟩
    rw [HF.out]
    have X1 := Lib.hid hb
    have B1 := Lib.hid (B0.out.on hb)
    clear hb
    go_wp2_with fail
    refine (pfault_any (z) 6 w1).mono ?_
    rintro e we ⟨⟨xx, rfl, hx⟩, hb⟩
    obtain ⟨bx, rfl⟩ := hx.form
    have HX := Lib.hid hx
    have BE := Lib.hid (BoxR.on B1.out hb)
    have XE := Lib.hid ((X0.out.trans (X1.out.mono X0.out.size)).trans (hb.mono (X0.out.trans (X1.out.mono X0.out.size)).size))
    clear hx hb
    obtain ⟨c0, c1, c2, c3⟩ := cells4 BE.out
    have g0 : ∀ o, we.frozen? ⟨w.heap.size, o, none⟩ = false := fun o => frozen_of_row _ _ _ _ _ BE.out
    have g0' := g0 0
    have g1' := g0 1
    have g2' := g0 2
    have g3' := g0 3
    clear g0
    have HF : Hid (BoxR (fin4 we w.heap.size 0 0 0 (.slice none 0 0)) w.heap.size 0 0 0 (.slice none 0 0) ∧ ReqNo w (z) 6 (.returned (.tuple #[Rq.zero, .iface 113 (.pointer (some ⟨bx, 0, none⟩))])) (fin4 we w.heap.size 0 0 0 (.slice none 0 0))) := Lib.hid ⟨fin4_box BE.out _ _ _ _, _, rfl, PErr.off HX.out (fin4_off _ _ _ _ _ _) BE.out, fin4_below XE.out _ _ _ _⟩
    unfold fin4 at HF
    go_wp2
    generalize (World.setCell (World.setCell (World.setCell (World.setCell we _ _) _ _) _ _) _ _) = W at HF ⊢
    obtain ⟨d0, d1, d2, d3⟩ := cells4 HF.out.1
    refine bodyPost_ret (v := .tuple #[Rq.zero, .iface 113 (.pointer (some ⟨bx, 0, none⟩))]) ?_ rfl HF.out.2
    simp [results, Tryd.results10, go_sem, d0, d1, d2, d3, Rq.zero]

set_option maxRecDepth 100000 in
set_option maxHeartbeats 4000000 in
theorem dec_form (v : Value) (y : UInt8) (l : List UInt8) (w : World) (hv : BytesAt w v (y :: l)) (hl : (y :: l).length ≤ 100000) (hf : isFn (y.toNat : Int) = true) (hd : decB (y :: l) = false) : Calls Tryd.prog 10 #[v] w (ReqNo w (y.toNat : Int) 4) := by
  have HV := Lib.hid hv
  have HL := Lib.hid hl
  obtain ⟨wx, hwx⟩ : ∃ wx, wx = w.alloc (.cells #[.int .i64 0, .int .i64 0, .int .i64 0, .slice none 0 0] 24) := ⟨_, rfl⟩
  have X0 : Hid (Below w.heap.size w wx) := Lib.hid (by rw [hwx]; exact below_new w _)
  have B0 : Hid (BoxR wx w.heap.size 0 0 0 (.slice none 0 0)) := Lib.hid (by rw [hwx]; exact heap_alloc_new w _)
  have V0 := Lib.hid (HV.out.on X0.out)
  have HF := Lib.hid hf
  obtain ⟨b, off, cap, rfl, hc0⟩ := bytesAt_cons (HV.out.on X0.out)
  rw [hwx] at hc0
  have hlen : ((l.length : Int) + 1 == 0) = false := by simp; omega
  have z0 : (0 : Int) ≤ (y.toNat : Int) := by omega
  have z1 : (y.toNat : Int) ≤ 255 := by have := byte_lt y; omega
  generalize (y.toNat : Int) = z at HF hf hc0 z0 z1 ⊢
  have HD : Hid (((parseF (y :: l)).may && (encF (parseF (y :: l)) == (y :: l))) = false) := Lib.hid hd
  clear hv hl hd hf
  · go_enter Tryd.func10, Tryd.ntmps10
    go_wp2_with fail
    rw [← hwx]
    clear hwx
    have HP := Lib.hid (parseF_length (y :: l))
    clear hc0
    refine (isfn_any z wx).mono ?_
    rintro e w1 ⟨rfl, hb⟩
    rw [HF.out]
    have X1 := Lib.hid hb
    have B1 := Lib.hid (B0.out.on hb)
    clear hb
    go_wp2_with fail
    refine (parse_any _ (y :: l) w1 (V0.out.on X1.out) HL.out).mono ?_
    rintro e w2 ⟨v2, rfl, hv2, hb⟩
    have X2 := Lib.hid (X1.out.trans (hb.mono X1.out.size))
    have B2 := Lib.hid (B1.out.on hb)
    have V2 := Lib.hid (intsAt_own hv2)
    have O2 := Lib.hid hv2
    have HSZ : Hid (w.heap.size < w1.heap.size) := Lib.hid (lt_heap B1.out)
    clear hb
    generalize parseF (y :: l) = q at *
    obtain ⟨f, s, c, vs⟩ := q
    unfold Rq.val
    dsimp only at HP V2 O2 hv2 ⊢
    obtain ⟨a2, k2, rfl⟩ := row_slice hv2
    clear hv2
    obtain ⟨w3, hw3⟩ : ∃ x, x = w2.alloc (.cells #[.int .i64 f, .int .i64 s, .int .i64 c, .slice a2 vs.length k2] 24) := ⟨_, rfl⟩
    have X3 : Hid (Below wx.heap.size wx w3) := Lib.hid (by rw [hw3]; exact X2.out.trans ((below_new w2 _).mono X2.out.size))
    have B3 : Hid (BoxR w3 w.heap.size 0 0 0 (.slice none 0 0) ∧ BoxR w3 w2.heap.size f s c (.slice a2 vs.length k2)) := Lib.hid (by rw [hw3]; exact ⟨B2.out.on (below_new _ _), heap_alloc_new w2 _⟩)
    have O3 : Hid (w3.ownsRow w1.heap.size 3 1 (.slice a2 vs.length k2) vs.length (icells vs)) := Lib.hid (by rw [hw3]; exact ownsRow_off O2.out (Off.of_below (fun _ => False) (below_new w2 _)) (fun _ _ f => f))
    have V3 : Hid (IntsAt w3 (.slice a2 vs.length k2) vs) := Lib.hid (by rw [hw3]; exact V2.out.on (below_new _ _))
    have Y3 : Hid (BytesAt w3 (.slice (some ⟨b, off, none⟩) (l.length + 1) cap) (y :: l)) := Lib.hid (V0.out.on X3.out)
    go_wp2_with fail
    rw [← hw3]
    clear hw3
    rcases Bool.eq_false_or_eq_true (Rq.may ⟨f, s, c, vs⟩) with hm | hm
    · have HM := Lib.hid hm
      have HN : Hid ((encF ⟨f, s, c, vs⟩ == (y :: l)) = false) := Lib.hid (by have := HD.out; rwa [hm, Bool.true_and] at this)
      clear hm
      refine (enc_ok ⟨f, s, c, vs⟩ _ w3 V3.out HM.out (by show vs.length ≤ 100000; have := HP.out; omega)).mono ?_
      rintro e w4 ⟨x4, rfl, hx4, hb⟩
      generalize encF ⟨f, s, c, vs⟩ = enc at *
      obtain ⟨a4, k4, rfl, _⟩ := bytesAt_own hx4
      have Z4 := Lib.hid (bytesAt_own hx4)
      have X4 := Lib.hid (X3.out.trans (hb.mono X3.out.size))
      have B4 : Hid (BoxR w4 w.heap.size 0 0 0 (.slice none 0 0)) := Lib.hid (B3.out.1.on hb)
      have Y4 := Lib.hid (Y3.out.on hb)
      clear hx4 hb
      go_wp2_with fail
      refine (bequal_any _ _ _ _ w4 Z4.out Y4.out).mono ?_
      rintro e w5 ⟨rfl, rfl⟩
      rw [HN.out]
      go_wp2_with fail
      refine (pfault_any (z) 4 w4).mono ?_
      rintro e we ⟨⟨xx, rfl, hx⟩, hb⟩
      obtain ⟨bx, rfl⟩ := hx.form
      have HX := Lib.hid hx
      have BE := Lib.hid (BoxR.on B4.out hb)
      have XE := Lib.hid ((X0.out.trans (X4.out.mono X0.out.size)).trans (hb.mono (X0.out.trans (X4.out.mono X0.out.size)).size))
      clear hx hb
      obtain ⟨c0, c1, c2, c3⟩ := cells4 BE.out
      have g0 : ∀ o, we.frozen? ⟨w.heap.size, o, none⟩ = false := fun o => frozen_of_row _ _ _ _ _ BE.out
      have g0' := g0 0
      have g1' := g0 1
      have g2' := g0 2
      have g3' := g0 3
      clear g0
      have HF : Hid (BoxR (fin4 we w.heap.size 0 0 0 (.slice none 0 0)) w.heap.size 0 0 0 (.slice none 0 0) ∧ ReqNo w (z) 4 (.returned (.tuple #[Rq.zero, .iface 113 (.pointer (some ⟨bx, 0, none⟩))])) (fin4 we w.heap.size 0 0 0 (.slice none 0 0))) := Lib.hid ⟨fin4_box BE.out _ _ _ _, _, rfl, PErr.off HX.out (fin4_off _ _ _ _ _ _) BE.out, fin4_below XE.out _ _ _ _⟩
      unfold fin4 at HF
      go_wp2
      generalize (World.setCell (World.setCell (World.setCell (World.setCell we _ _) _ _) _ _) _ _) = W at HF ⊢
      obtain ⟨d0, d1, d2, d3⟩ := cells4 HF.out.1
      refine bodyPost_ret (v := .tuple #[Rq.zero, .iface 113 (.pointer (some ⟨bx, 0, none⟩))]) ?_ rfl HF.out.2
      simp [results, Tryd.results10, go_sem, d0, d1, d2, d3, Rq.zero]
    · have HM := Lib.hid hm
      clear hm
      refine (enc_no ⟨f, s, c, vs⟩ _ w3 V3.out HM.out (by show vs.length ≤ 100000; have := HP.out; omega)).mono ?_
      rintro e w4 ⟨x4, rfl, hx4, hb⟩
      obtain ⟨b4, rfl⟩ := hx4.form
      have X4 := Lib.hid (X3.out.trans (hb.mono X3.out.size))
      have B4 : Hid (BoxR w4 w.heap.size 0 0 0 (.slice none 0 0)) := Lib.hid (B3.out.1.on hb)
      clear hx4 hb
      go_wp2_with fail
      refine (pfault_any (z) 4 w4).mono ?_
      rintro e we ⟨⟨xx, rfl, hx⟩, hb⟩
      obtain ⟨bx, rfl⟩ := hx.form
      have HX := Lib.hid hx
      have BE := Lib.hid (BoxR.on B4.out hb)
      have XE := Lib.hid ((X0.out.trans (X4.out.mono X0.out.size)).trans (hb.mono (X0.out.trans (X4.out.mono X0.out.size)).size))
      clear hx hb
      obtain ⟨c0, c1, c2, c3⟩ := cells4 BE.out
      have g0 : ∀ o, we.frozen? ⟨w.heap.size, o, none⟩ = false := fun o => frozen_of_row _ _ _ _ _ BE.out
      have g0' := g0 0
      have g1' := g0 1
      have g2' := g0 2
      have g3' := g0 3
      clear g0
      have HF : Hid (BoxR (fin4 we w.heap.size 0 0 0 (.slice none 0 0)) w.heap.size 0 0 0 (.slice none 0 0) ∧ ReqNo w (z) 4 (.returned (.tuple #[Rq.zero, .iface 113 (.pointer (some ⟨bx, 0, none⟩))])) (fin4 we w.heap.size 0 0 0 (.slice none 0 0))) := Lib.hid ⟨fin4_box BE.out _ _ _ _, _, rfl, PErr.off HX.out (fin4_off _ _ _ _ _ _) BE.out, fin4_below XE.out _ _ _ _⟩
      unfold fin4 at HF
      go_wp2
      generalize (World.setCell (World.setCell (World.setCell (World.setCell we _ _) _ _) _ _) _ _) = W at HF ⊢
      obtain ⟨d0, d1, d2, d3⟩ := cells4 HF.out.1
      refine bodyPost_ret (v := .tuple #[Rq.zero, .iface 113 (.pointer (some ⟨bx, 0, none⟩))]) ?_ rfl HF.out.2
      simp [results, Tryd.results10, go_sem, d0, d1, d2, d3, Rq.zero]

theorem rdN_nil : (rdN [] 0 1).1 = 0 := by simp [rdN]
theorem dec_no (v : Value) (bs : List UInt8) (w : World) (hv : BytesAt w v bs) (hl : bs.length ≤ 100000) (hd : decB bs = false) : Calls Tryd.prog 10 #[v] w (ReqNo w (rdN bs 0 1).1 (decCode bs)) := by
  cases bs with
  | nil =>
    rw [rdN_nil]
    exact dec_nil v w hv
  | cons y l =>
    unfold decCode
    rw [rdN_first, if_neg (by simp)]
    cases hf : isFn (y.toNat : Int) with
    | true => exact dec_form v y l w hv hl hf hd
    | false => exact dec_kind v y l w hv hf
end Go.Proofs.YtngfaailbkadfaaDoor
