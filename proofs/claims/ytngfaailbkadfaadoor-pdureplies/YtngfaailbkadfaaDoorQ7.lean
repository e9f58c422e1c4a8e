/- yardref7.body: the bytes of a valid request; memory that was there stands. -/
import Derived.Test.YtngfaailbkadfaaDoorQ4
import Derived.Test.YtngfaailbkadfaaDoorQ1
import Derived.Deep.RegionHeld3
import Derived.Deep.RegionLaw
namespace Go.Proofs.YtngfaailbkadfaaDoor
open Go.RowKit Go.Extern.Stop Go.Stop Go.Extern

theorem BoxQ.cells {w : World} {k : Nat} {f s c : Int} {v : Value} (h : BoxQ w k f s c v) : w.cell? ⟨k, 0, none⟩ = some (.int .i64 f) ∧ w.cell? ⟨k, 1, none⟩ = some (.int .i64 s) ∧ w.cell? ⟨k, 2, none⟩ = some (.int .i64 c) ∧ w.cell? ⟨k, 3, none⟩ = some v := cells4 h
theorem bytesAt_own' {w : World} {base n : Nat} {v : Value} {l : List UInt8} (h : w.ownsRow base 5 1 v n (bcells l)) (hn : l.length = n) : BytesAt w v l := bytesAt_own (by rw [hn]; exact h)
/-- What the first three bytes leave. -/
def Body3 (w : World) (f s c : Int) (v : Value) (g k : Nat) (w2 : World) : Prop :=
  w2.ownsRow w.heap.size 5 1 (.slice (some ⟨g, 0, none⟩) 3 k) 3 (bcells (be 1 f ++ be 2 s)) ∧ BoxQ w2 w.heap.size f s c v ∧ Below w.heap.size w w2
theorem one_f {f : Int} (hf : 1 ≤ f ∧ f ≤ 16) : [.int .u8 f] = bcells (be 1 f) := by rw [qbe_one, show f % 256 = f by omega]
theorem body3_of {w w1 w2 : World} {f s c : Int} {v u : Value} {g k : Nat} (hf : 1 ≤ f ∧ f ≤ 16) (hb : BoxQ w1 w.heap.size f s c v) (hx : Below w.heap.size w w1) (hu : w1.ownsRow w.heap.size 5 1 u 1 [.int .u8 f]) (ho : w2.ownsRow w.heap.size 5 1 (.slice (some ⟨g, 0, none⟩) (1 + 2) k) (1 + 2) ([.int .u8 f] ++ bcells (be 2 s))) (hg : w1.grownBy w2 u.ownBlock) : Body3 w f s c v g k w2 := by
  refine ⟨?_, ?_, hx.grown hg hx.size (fun j hj => (hu.lt j hj).1)⟩
  · rw [bcells_append, ← one_f hf]
    exact ho
  · exact (hg.block _ (lt_heap hb) (fun e => row_no hu hb (by decide) e.symm)).trans hb

theorem be2_bit {v : Int} (hv : v = 0 ∨ v = 1) : bcells (be 2 (65280 * v)) = [.int .u8 (255 * v % 256), .int .u8 0] := by
  rw [be2_cells]
  rcases hv with rfl | rfl <;> rfl
/-- Two bytes more. -/
def Body5 (w : World) (f s c : Int) (v : Value) (m : List UInt8) (g k : Nat) (w2 : World) : Prop :=
  w2.ownsRow w.heap.size 5 1 (.slice (some ⟨g, 0, none⟩) m.length k) m.length (bcells m) ∧ BoxQ w2 w.heap.size f s c v ∧ Below w.heap.size w w2
theorem body_app {w w1 w2 : World} {f s c : Int} {v u : Value} {g k n m0 : Nat} {l m : List UInt8} (hb : BoxQ w1 w.heap.size f s c v) (hx : Below w.heap.size w w1) (hu : w1.ownsRow w.heap.size 5 1 u m0 (bcells l)) (ho : w2.ownsRow w.heap.size 5 1 (.slice (some ⟨g, 0, none⟩) n k) n (bcells l ++ bcells m)) (hn : (l ++ m).length = n) (hg : w1.grownBy w2 u.ownBlock) : Body5 w f s c v (l ++ m) g k w2 := by
  subst hn
  refine ⟨by rw [bcells_append]; exact ho, ?_, hx.grown hg hx.size (fun j hj => (hu.lt j hj).1)⟩
  exact (hg.block _ (lt_heap hb) (fun e => row_no hu hb (by decide) e.symm)).trans hb
theorem three_len (f s : Int) : (be 1 f ++ be 2 s).length = 3 := by rw [List.length_append, be_length, be_length]
theorem enc5 {f s c : Int} {vs : List Int} {x : Int} (hx : wordF ⟨f, s, c, vs⟩ = x) (h : ¬ (f = 15 ∨ f = 16)) : encF ⟨f, s, c, vs⟩ = (be 1 f ++ be 2 s) ++ be 2 x := by
  unfold encF headF
  rw [hx]
  dsimp only
  rw [if_neg h, List.append_nil, List.append_assoc]
theorem enc6 {f s c : Int} {vs : List Int} (h : f = 15 ∨ f = 16) : encF ⟨f, s, c, vs⟩ = ((be 1 f ++ be 2 s) ++ be 2 c) ++ cntF (datF vs (f == 15)) := by
  have hw : wordF ⟨f, s, c, vs⟩ = c := by unfold wordF; dsimp only; rw [if_neg (by omega), if_neg (by omega)]
  have hd : dataF f vs = datF vs (f == 15) := by
    unfold dataF datF
    rcases h with rfl | rfl <;> rfl
  unfold encF headF putF cntF
  rw [hw]
  dsimp only
  rw [if_pos h, hd]
  simp only [List.append_assoc]
set_option maxRecDepth 100000 in
set_option maxHeartbeats 8000000 in
theorem body_read (f s c : Int) (v : Value) (vs : List Int) (w : World) (hv : IntsAt w v vs) (hf : 1 ≤ f ∧ f ≤ 16) (_hl : vs.length ≤ 3000) (h4 : f ≤ 4) : Calls Tryd.prog 31 #[.agg #[.int .i64 f, .int .i64 s, .int .i64 c, v]] w (CopyIs w (encF ⟨f, s, c, vs⟩)) := by
  obtain ⟨i0, hi0, hz0, hz1, hz2⟩ := info_parts info5
  have HV := Lib.hid hv
  obtain ⟨ao, cap, rfl, _⟩ := hv
  obtain ⟨wx, hwx⟩ : ∃ wx, wx = w.alloc (.cells #[.int .i64 f, .int .i64 s, .int .i64 c, .slice ao vs.length cap] 38) := ⟨_, rfl⟩
  have X0 : Hid (Below w.heap.size w wx) := Lib.hid (by rw [hwx]; exact below_new w _)
  have B0 : Hid (BoxQ wx w.heap.size f s c (.slice ao vs.length cap)) := Lib.hid (by rw [hwx]; exact heap_alloc_new w _)
  have hfw : IntKind.u8.wrap f = f := by rw [IntKind.wrap_u8']; omega
  have hsz : wx.heap.size = w.heap.size + 1 := by rw [hwx]; simp
  have HSZ := Lib.hid hsz
  clear hsz
  go_enter Tryd.func31, Tryd.ntmps31
  go_wp2_with fail
  rw [← hwx]
  clear hwx
  obtain ⟨k0, k1, _, _⟩ := B0.out.cells
  have h38 : (38 : Nat) ≠ 5 := by decide
  have HM1 : 1 + 2 ≤ maxLen := by unfold maxLen; omega
  have HM2 : (1 + 2) * 1 ≤ 140737488355328 := by omega
  have HL2 : Hid ((bcells (be 2 s)).length = 2 * 1) := Lib.hid (by rw [bcells_length, be_length])
  have HF := Lib.hid hf
  have n5 : (f == 5) = false := beq_eq_false_iff_ne.2 (by omega)
  have n6 : (f == 6) = false := beq_eq_false_iff_ne.2 (by omega)
  have n15 : ¬ 15 ≤ f := by omega
  have HE : Hid (encF ⟨f, s, c, vs⟩ = (be 1 f ++ be 2 s) ++ be 2 c) := Lib.hid (enc5 (by unfold wordF; dsimp only; rw [if_neg (by omega), if_neg (by omega)]) (by omega))
  have BD : Hid (Below wx.heap.size wx wx.drew) := Lib.hid (Below.refl _ wx).drew
  have BA : Hid (Below wx.heap.size wx (wx.alloc (.cells #[.int .u8 f] 5)).drew) := Lib.hid (below_new wx _).drew
  have OA : Hid ((wx.alloc (.cells #[.int .u8 f] 5)).drew.ownsRow w.heap.size 5 1 (.slice (some ⟨wx.heap.size, 0, none⟩) 1 1) 1 [.int .u8 f]) := Lib.hid (World.ownsRow_lit wx #[.int .u8 f] 1 X0.out.size (by unfold maxLen; omega) (by simp)).drew
  have OL : Hid (∀ w1 : World, w.heap.size ≤ w1.heap.size → (w1.alloc (.cells #[.int .u8 f] 5)).ownsRow w.heap.size 5 1 (.slice (some ⟨w1.heap.size, 0, none⟩) 1 1) 1 [.int .u8 f]) := Lib.hid (fun w1 h => World.ownsRow_lit w1 #[.int .u8 f] 1 h (by unfold maxLen; omega) (by simp))
  have HS2 : Hid (∀ w1 : World, (w1.alloc (.cells #[.int .u8 f] 5)).heap.size = w1.heap.size + 1) := Lib.hid (fun w1 => by simp)
  have t0 := (BA.out.cell (lt_cell k0)).trans k0
  have t1 := (BA.out.cell (lt_cell k1)).trans k1
  have h2len := be_length 2 s
  go_region_law (first
      | (go_simp; go_at_call 53; refine (two_any s _).mono ?_; rintro e w1 ⟨v1, rfl, ho, hb⟩; rw [h2len] at ho; obtain ⟨g1, q1, rfl, _, _⟩ := row_lit ho Nat.two_pos; have HN : Hid (BytesAt w1 (.slice (some ⟨g1, 0, none⟩) 2 q1) (be 2 s)) := Lib.hid (bytesAt_own' ho h2len); first | (have HB1 : Hid (Below wx.heap.size wx w1) := Lib.hid (BA.out.trans (hb.mono BA.out.size)); have HO : Hid (w1.ownsRow w.heap.size 5 1 (.slice (some ⟨wx.heap.size, 0, none⟩) 1 1) 1 [.int .u8 f]) := Lib.hid (ownsRow_off OA.out (Off.of_below (fun _ => False) hb) (fun _ _ f => f))) | (have HB1 : Hid (Below wx.heap.size wx w1) := Lib.hid (BD.out.trans hb)); have d0 := (HB1.out.cell (lt_cell k0)).trans k0; have d1 := (HB1.out.cell (lt_cell k1)).trans k1; clear ho hb; simp only [])
      | (refine step_append_lies _ rfl _ _ _ rfl w.heap.size 5 i0 _ 1 1 Tryd.underlying25 hi0 hz0 hz1 hz2 rfl Nat.one_pos (.slice (some ⟨wx.heap.size, 0, none⟩) 1 1) 1 [.int .u8 f] rfl HO.out ⟨g1, 0, none⟩ 2 q1 (bcells (be 2 s)) rfl HL2.out (bytesAt_news HN.out) (bcells_one _) Nat.two_pos HM1 HM2 (Nat.le_trans X0.out.size HB1.out.size) w1.heap.size rfl ?_; intro g2 c2 w2 ho hg hat hlt; have HP2 := Lib.hid (body3_of HF.out (B0.out.on HB1.out) (X0.out.trans (HB1.out.mono X0.out.size)) HO.out ho hg); clear ho hg hat hlt)
      | (refine step_append_lies _ rfl _ _ _ rfl w.heap.size 5 i0 _ 1 1 Tryd.underlying25 hi0 hz0 hz1 hz2 rfl Nat.one_pos (.slice (some ⟨w1.heap.size, 0, none⟩) 1 1) 1 [.int .u8 f] rfl (OL.out w1 (Nat.le_trans X0.out.size HB1.out.size)) ⟨g1, 0, none⟩ 2 q1 (bcells (be 2 s)) rfl HL2.out (bytesAt_news (HN.out.on (below_new w1 _))) (bcells_one _) Nat.two_pos HM1 HM2 (Nat.le_trans (Nat.le_trans X0.out.size HB1.out.size) (below_new w1 _).size) (w1.heap.size + 1) (HS2.out w1) ?_; intro g2 c2 w2 ho hg hat hlt; have HP2 := Lib.hid (body3_of HF.out ((B0.out.on HB1.out).on (below_new w1 _)) ((X0.out.trans (HB1.out.mono X0.out.size)).trans ((below_new w1 _).mono (Nat.le_trans X0.out.size HB1.out.size))) (OL.out w1 (Nat.le_trans X0.out.size HB1.out.size)) ho hg); clear ho hg hat hlt))
  all_goals
    obtain ⟨c0, c1, c2', c3⟩ := HP2.out.2.1.cells
    go_wp2_with fail
    refine (two_any c w2).mono ?_
    rintro e w3 ⟨v3, rfl, ho3, hb3⟩
    rw [be_length] at ho3
    obtain ⟨g3, q3, rfl, _, _⟩ := row_lit ho3 Nat.two_pos
    have N3 : Hid (BytesAt w3 (.slice (some ⟨g3, 0, none⟩) 2 q3) (be 2 c)) := Lib.hid (bytesAt_own' ho3 (be_length 2 c))
    have R3 := Lib.hid (ownsRow_off HP2.out.1 (Off.of_below (fun _ => False) hb3) (fun _ _ f => f))
    have Y3 := Lib.hid (HP2.out.2.1.on hb3)
    have X3 := Lib.hid (HP2.out.2.2.trans (hb3.mono HP2.out.2.2.size))
    clear ho3 hb3 c0 c1 c2' c3
    have HL3 : Hid ((bcells (be 2 c)).length = 2 * 1) := Lib.hid (by rw [bcells_length, be_length])
    go_wp2_with (at_builtin; refine wpList_append_lies _ rfl _ _ 25 rfl w.heap.size 5 i0 _ 1 1 Tryd.underlying25 hi0 hz0 hz1 hz2 rfl (by omega) _ 3 (bcells (be 1 f ++ be 2 s)) rfl R3.out ⟨g3, 0, none⟩ 2 q3 (bcells (be 2 c)) rfl HL3.out (bytesAt_news N3.out) (bcells_one _) (by omega) (by unfold maxLen; omega) (by omega) X3.out.size w3.heap.size rfl ?_)
    intro g4 c4 w4 ho hg hat hlt
    have HP4 := Lib.hid (body_app Y3.out X3.out R3.out ho (by rw [List.length_append, three_len, be_length]) hg)
    clear ho hg hat hlt
    obtain ⟨c0, c1, c2', c3⟩ := HP4.out.2.1.cells
    have HR : Hid (CopyIs w (encF ⟨f, s, c, vs⟩) (.returned (.slice (some ⟨g4, 0, none⟩) 5 c4)) w4) := Lib.hid ⟨_, rfl, by rw [HE.out]; exact HP4.out.1, HP4.out.2.2⟩
    go_wp2
    go_ret
    exact HR.out

set_option maxRecDepth 100000 in
set_option maxHeartbeats 8000000 in
theorem body_reg (f s c : Int) (v : Value) (vs : List Int) (w : World) (hv : IntsAt w v vs) (hf : 1 ≤ f ∧ f ≤ 16) (_hl : vs.length ≤ 3000) (x : Int) (h6 : Hid (f = 6)) (hx : Hid (vs = [x])) : Calls Tryd.prog 31 #[.agg #[.int .i64 f, .int .i64 s, .int .i64 c, v]] w (CopyIs w (encF ⟨f, s, c, vs⟩)) := by
  obtain ⟨i0, hi0, hz0, hz1, hz2⟩ := info_parts info5
  have HV := Lib.hid hv
  obtain ⟨ao, cap, rfl, _⟩ := hv
  obtain ⟨wx, hwx⟩ : ∃ wx, wx = w.alloc (.cells #[.int .i64 f, .int .i64 s, .int .i64 c, .slice ao vs.length cap] 38) := ⟨_, rfl⟩
  have X0 : Hid (Below w.heap.size w wx) := Lib.hid (by rw [hwx]; exact below_new w _)
  have B0 : Hid (BoxQ wx w.heap.size f s c (.slice ao vs.length cap)) := Lib.hid (by rw [hwx]; exact heap_alloc_new w _)
  have hfw : IntKind.u8.wrap f = f := by rw [IntKind.wrap_u8']; omega
  have hsz : wx.heap.size = w.heap.size + 1 := by rw [hwx]; simp
  have HSZ := Lib.hid hsz
  clear hsz
  go_enter Tryd.func31, Tryd.ntmps31
  go_wp2_with fail
  rw [← hwx]
  clear hwx
  obtain ⟨k0, k1, _, _⟩ := B0.out.cells
  have h38 : (38 : Nat) ≠ 5 := by decide
  have HM1 : 1 + 2 ≤ maxLen := by unfold maxLen; omega
  have HM2 : (1 + 2) * 1 ≤ 140737488355328 := by omega
  have HL2 : Hid ((bcells (be 2 s)).length = 2 * 1) := Lib.hid (by rw [bcells_length, be_length])
  have HF := Lib.hid hf
  have n5 : (f == 5) = false := beq_eq_false_iff_ne.2 (by have := h6.out; omega)
  have n6 : (f == 6) = true := beq_iff_eq.2 h6.out
  have HE : Hid (encF ⟨f, s, c, vs⟩ = (be 1 f ++ be 2 s) ++ be 2 x) := Lib.hid (enc5 (by unfold wordF; dsimp only; rw [if_neg (by have := h6.out; omega), if_pos h6.out, hx.out]; rfl) (by have := h6.out; omega))
  obtain ⟨bb, oo, rfl, hc0⟩ : ∃ bb oo, ao = some ⟨bb, oo, none⟩ ∧ w.cell? ⟨bb, oo, none⟩ = some (.int .i64 x) := by
    obtain ⟨ao', cap', e, hc⟩ := HV.out
    obtain ⟨bb, oo, e2, hcell⟩ := hc 0 (by rw [hx.out]; simp)
    simp only [Value.slice.injEq] at e
    exact ⟨bb, oo, e.1.trans e2, by simpa [hx.out] using hcell⟩
  have HC0 := Lib.hid hc0
  have hlen2 : (0 : Int) < (vs.length : Int) := by rw [hx.out]; simp
  have hlen3 : 0 < vs.length := by rw [hx.out]; simp
  clear hc0
  have BD : Hid (Below wx.heap.size wx wx.drew) := Lib.hid (Below.refl _ wx).drew
  have BA : Hid (Below wx.heap.size wx (wx.alloc (.cells #[.int .u8 f] 5)).drew) := Lib.hid (below_new wx _).drew
  have OA : Hid ((wx.alloc (.cells #[.int .u8 f] 5)).drew.ownsRow w.heap.size 5 1 (.slice (some ⟨wx.heap.size, 0, none⟩) 1 1) 1 [.int .u8 f]) := Lib.hid (World.ownsRow_lit wx #[.int .u8 f] 1 X0.out.size (by unfold maxLen; omega) (by simp)).drew
  have OL : Hid (∀ w1 : World, w.heap.size ≤ w1.heap.size → (w1.alloc (.cells #[.int .u8 f] 5)).ownsRow w.heap.size 5 1 (.slice (some ⟨w1.heap.size, 0, none⟩) 1 1) 1 [.int .u8 f]) := Lib.hid (fun w1 h => World.ownsRow_lit w1 #[.int .u8 f] 1 h (by unfold maxLen; omega) (by simp))
  have HS2 : Hid (∀ w1 : World, (w1.alloc (.cells #[.int .u8 f] 5)).heap.size = w1.heap.size + 1) := Lib.hid (fun w1 => by simp)
  have t0 := (BA.out.cell (lt_cell k0)).trans k0
  have t1 := (BA.out.cell (lt_cell k1)).trans k1
  have h2len := be_length 2 s
  go_region_law (first
      | (go_simp; go_at_call 53; refine (two_any s _).mono ?_; rintro e w1 ⟨v1, rfl, ho, hb⟩; rw [h2len] at ho; obtain ⟨g1, q1, rfl, _, _⟩ := row_lit ho Nat.two_pos; have HN : Hid (BytesAt w1 (.slice (some ⟨g1, 0, none⟩) 2 q1) (be 2 s)) := Lib.hid (bytesAt_own' ho h2len); first | (have HB1 : Hid (Below wx.heap.size wx w1) := Lib.hid (BA.out.trans (hb.mono BA.out.size)); have HO : Hid (w1.ownsRow w.heap.size 5 1 (.slice (some ⟨wx.heap.size, 0, none⟩) 1 1) 1 [.int .u8 f]) := Lib.hid (ownsRow_off OA.out (Off.of_below (fun _ => False) hb) (fun _ _ f => f))) | (have HB1 : Hid (Below wx.heap.size wx w1) := Lib.hid (BD.out.trans hb)); have d0 := (HB1.out.cell (lt_cell k0)).trans k0; have d1 := (HB1.out.cell (lt_cell k1)).trans k1; clear ho hb; simp only [])
      | (refine step_append_lies _ rfl _ _ _ rfl w.heap.size 5 i0 _ 1 1 Tryd.underlying25 hi0 hz0 hz1 hz2 rfl Nat.one_pos (.slice (some ⟨wx.heap.size, 0, none⟩) 1 1) 1 [.int .u8 f] rfl HO.out ⟨g1, 0, none⟩ 2 q1 (bcells (be 2 s)) rfl HL2.out (bytesAt_news HN.out) (bcells_one _) Nat.two_pos HM1 HM2 (Nat.le_trans X0.out.size HB1.out.size) w1.heap.size rfl ?_; intro g2 c2 w2 ho hg hat hlt; have HP2 := Lib.hid (body3_of HF.out (B0.out.on HB1.out) (X0.out.trans (HB1.out.mono X0.out.size)) HO.out ho hg); clear ho hg hat hlt)
      | (refine step_append_lies _ rfl _ _ _ rfl w.heap.size 5 i0 _ 1 1 Tryd.underlying25 hi0 hz0 hz1 hz2 rfl Nat.one_pos (.slice (some ⟨w1.heap.size, 0, none⟩) 1 1) 1 [.int .u8 f] rfl (OL.out w1 (Nat.le_trans X0.out.size HB1.out.size)) ⟨g1, 0, none⟩ 2 q1 (bcells (be 2 s)) rfl HL2.out (bytesAt_news (HN.out.on (below_new w1 _))) (bcells_one _) Nat.two_pos HM1 HM2 (Nat.le_trans (Nat.le_trans X0.out.size HB1.out.size) (below_new w1 _).size) (w1.heap.size + 1) (HS2.out w1) ?_; intro g2 c2 w2 ho hg hat hlt; have HP2 := Lib.hid (body3_of HF.out ((B0.out.on HB1.out).on (below_new w1 _)) ((X0.out.trans (HB1.out.mono X0.out.size)).trans ((below_new w1 _).mono (Nat.le_trans X0.out.size HB1.out.size))) (OL.out w1 (Nat.le_trans X0.out.size HB1.out.size)) ho hg); clear ho hg hat hlt))
  all_goals
    obtain ⟨c0, c1, c2', c3⟩ := HP2.out.2.1.cells
    have kx : w2.cell? ⟨bb, oo, none⟩ = some (.int .i64 x) := (HP2.out.2.2.cell (lt_cell HC0.out)).trans HC0.out
    go_wp2_with fail
    refine (two_any x w2).mono ?_
    rintro e w3 ⟨v3, rfl, ho3, hb3⟩
    rw [be_length] at ho3
    obtain ⟨g3, q3, rfl, _, _⟩ := row_lit ho3 Nat.two_pos
    have N3 : Hid (BytesAt w3 (.slice (some ⟨g3, 0, none⟩) 2 q3) (be 2 x)) := Lib.hid (bytesAt_own' ho3 (be_length 2 x))
    have R3 := Lib.hid (ownsRow_off HP2.out.1 (Off.of_below (fun _ => False) hb3) (fun _ _ f => f))
    have Y3 := Lib.hid (HP2.out.2.1.on hb3)
    have X3 := Lib.hid (HP2.out.2.2.trans (hb3.mono HP2.out.2.2.size))
    clear ho3 hb3 kx c0 c1 c2' c3
    have HL3 : Hid ((bcells (be 2 x)).length = 2 * 1) := Lib.hid (by rw [bcells_length, be_length])
    go_wp2_with (at_builtin; refine wpList_append_lies _ rfl _ _ 25 rfl w.heap.size 5 i0 _ 1 1 Tryd.underlying25 hi0 hz0 hz1 hz2 rfl (by omega) _ 3 (bcells (be 1 f ++ be 2 s)) rfl R3.out ⟨g3, 0, none⟩ 2 q3 (bcells (be 2 x)) rfl HL3.out (bytesAt_news N3.out) (bcells_one _) (by omega) (by unfold maxLen; omega) (by omega) X3.out.size w3.heap.size rfl ?_)
    intro g4 c4 w4 ho hg hat hlt
    have HP4 := Lib.hid (body_app Y3.out X3.out R3.out ho (by rw [List.length_append, three_len, be_length]) hg)
    clear ho hg hat hlt
    obtain ⟨c0, c1, c2', c3⟩ := HP4.out.2.1.cells
    have HR : Hid (CopyIs w (encF ⟨f, s, c, vs⟩) (.returned (.slice (some ⟨g4, 0, none⟩) 5 c4)) w4) := Lib.hid ⟨_, rfl, by rw [HE.out]; exact HP4.out.1, HP4.out.2.2⟩
    clear c0 c1 c2' c3
    go_wp2
    go_ret
    exact HR.out

set_option maxRecDepth 100000 in
set_option maxHeartbeats 8000000 in
theorem body_bit (f s c : Int) (v : Value) (vs : List Int) (w : World) (hv : IntsAt w v vs) (hf : 1 ≤ f ∧ f ≤ 16) (_hl : vs.length ≤ 3000) (x : Int) (h5 : Hid (f = 5)) (hx : Hid (vs = [x])) (hx1 : x = 0 ∨ x = 1) : Calls Tryd.prog 31 #[.agg #[.int .i64 f, .int .i64 s, .int .i64 c, v]] w (CopyIs w (encF ⟨f, s, c, vs⟩)) := by
  obtain ⟨i0, hi0, hz0, hz1, hz2⟩ := info_parts info5
  have HV := Lib.hid hv
  obtain ⟨ao, cap, rfl, _⟩ := hv
  obtain ⟨wx, hwx⟩ : ∃ wx, wx = w.alloc (.cells #[.int .i64 f, .int .i64 s, .int .i64 c, .slice ao vs.length cap] 38) := ⟨_, rfl⟩
  have X0 : Hid (Below w.heap.size w wx) := Lib.hid (by rw [hwx]; exact below_new w _)
  have B0 : Hid (BoxQ wx w.heap.size f s c (.slice ao vs.length cap)) := Lib.hid (by rw [hwx]; exact heap_alloc_new w _)
  have hfw : IntKind.u8.wrap f = f := by rw [IntKind.wrap_u8']; omega
  have hsz : wx.heap.size = w.heap.size + 1 := by rw [hwx]; simp
  have HSZ := Lib.hid hsz
  clear hsz
  go_enter Tryd.func31, Tryd.ntmps31
  go_wp2_with fail
  rw [← hwx]
  clear hwx
  obtain ⟨k0, k1, _, _⟩ := B0.out.cells
  have h38 : (38 : Nat) ≠ 5 := by decide
  have HM1 : 1 + 2 ≤ maxLen := by unfold maxLen; omega
  have HM2 : (1 + 2) * 1 ≤ 140737488355328 := by omega
  have HL2 : Hid ((bcells (be 2 s)).length = 2 * 1) := Lib.hid (by rw [bcells_length, be_length])
  have HF := Lib.hid hf
  have n5 : (f == 5) = true := beq_iff_eq.2 h5.out
  have HE : Hid (encF ⟨f, s, c, vs⟩ = (be 1 f ++ be 2 s) ++ be 2 (65280 * x)) := Lib.hid (enc5 (by unfold wordF; dsimp only; rw [if_pos h5.out, hx.out]; rfl) (by have := h5.out; omega))
  obtain ⟨bb, oo, rfl, hc0⟩ : ∃ bb oo, ao = some ⟨bb, oo, none⟩ ∧ w.cell? ⟨bb, oo, none⟩ = some (.int .i64 x) := by
    obtain ⟨ao', cap', e, hc⟩ := HV.out
    obtain ⟨bb, oo, e2, hcell⟩ := hc 0 (by rw [hx.out]; simp)
    simp only [Value.slice.injEq] at e
    exact ⟨bb, oo, e.1.trans e2, by simpa [hx.out] using hcell⟩
  have HC0 := Lib.hid hc0
  have hlen2 : (0 : Int) < (vs.length : Int) := by rw [hx.out]; simp
  have hlen3 : 0 < vs.length := by rw [hx.out]; simp
  have hw255 : wrap64 (255 * x) = 255 * x := by unfold wrap64; omega
  have hw8 : IntKind.u8.wrap (255 * x) = 255 * x := by rw [IntKind.wrap_u8']; omega
  have HBB : Hid (bcells (be 2 (65280 * x)) = [.int .u8 (255 * x), .int .u8 0]) := Lib.hid (by rw [be2_bit hx1, show 255 * x % 256 = 255 * x by omega])
  have hx0 : 0 ≤ x := by omega
  have hx2 : x ≤ 1 := by omega
  clear hc0
  have BD : Hid (Below wx.heap.size wx wx.drew) := Lib.hid (Below.refl _ wx).drew
  have BA : Hid (Below wx.heap.size wx (wx.alloc (.cells #[.int .u8 f] 5)).drew) := Lib.hid (below_new wx _).drew
  have OA : Hid ((wx.alloc (.cells #[.int .u8 f] 5)).drew.ownsRow w.heap.size 5 1 (.slice (some ⟨wx.heap.size, 0, none⟩) 1 1) 1 [.int .u8 f]) := Lib.hid (World.ownsRow_lit wx #[.int .u8 f] 1 X0.out.size (by unfold maxLen; omega) (by simp)).drew
  have OL : Hid (∀ w1 : World, w.heap.size ≤ w1.heap.size → (w1.alloc (.cells #[.int .u8 f] 5)).ownsRow w.heap.size 5 1 (.slice (some ⟨w1.heap.size, 0, none⟩) 1 1) 1 [.int .u8 f]) := Lib.hid (fun w1 h => World.ownsRow_lit w1 #[.int .u8 f] 1 h (by unfold maxLen; omega) (by simp))
  have HS2 : Hid (∀ w1 : World, (w1.alloc (.cells #[.int .u8 f] 5)).heap.size = w1.heap.size + 1) := Lib.hid (fun w1 => by simp)
  have t0 := (BA.out.cell (lt_cell k0)).trans k0
  have t1 := (BA.out.cell (lt_cell k1)).trans k1
  have h2len := be_length 2 s
  go_region_law (first
      | (go_simp; go_at_call 53; refine (two_any s _).mono ?_; rintro e w1 ⟨v1, rfl, ho, hb⟩; rw [h2len] at ho; obtain ⟨g1, q1, rfl, _, _⟩ := row_lit ho Nat.two_pos; have HN : Hid (BytesAt w1 (.slice (some ⟨g1, 0, none⟩) 2 q1) (be 2 s)) := Lib.hid (bytesAt_own' ho h2len); first | (have HB1 : Hid (Below wx.heap.size wx w1) := Lib.hid (BA.out.trans (hb.mono BA.out.size)); have HO : Hid (w1.ownsRow w.heap.size 5 1 (.slice (some ⟨wx.heap.size, 0, none⟩) 1 1) 1 [.int .u8 f]) := Lib.hid (ownsRow_off OA.out (Off.of_below (fun _ => False) hb) (fun _ _ f => f))) | (have HB1 : Hid (Below wx.heap.size wx w1) := Lib.hid (BD.out.trans hb)); have d0 := (HB1.out.cell (lt_cell k0)).trans k0; have d1 := (HB1.out.cell (lt_cell k1)).trans k1; clear ho hb; simp only [])
      | (refine step_append_lies _ rfl _ _ _ rfl w.heap.size 5 i0 _ 1 1 Tryd.underlying25 hi0 hz0 hz1 hz2 rfl Nat.one_pos (.slice (some ⟨wx.heap.size, 0, none⟩) 1 1) 1 [.int .u8 f] rfl HO.out ⟨g1, 0, none⟩ 2 q1 (bcells (be 2 s)) rfl HL2.out (bytesAt_news HN.out) (bcells_one _) Nat.two_pos HM1 HM2 (Nat.le_trans X0.out.size HB1.out.size) w1.heap.size rfl ?_; intro g2 c2 w2 ho hg hat hlt; have HP2 := Lib.hid (body3_of HF.out (B0.out.on HB1.out) (X0.out.trans (HB1.out.mono X0.out.size)) HO.out ho hg); clear ho hg hat hlt)
      | (refine step_append_lies _ rfl _ _ _ rfl w.heap.size 5 i0 _ 1 1 Tryd.underlying25 hi0 hz0 hz1 hz2 rfl Nat.one_pos (.slice (some ⟨w1.heap.size, 0, none⟩) 1 1) 1 [.int .u8 f] rfl (OL.out w1 (Nat.le_trans X0.out.size HB1.out.size)) ⟨g1, 0, none⟩ 2 q1 (bcells (be 2 s)) rfl HL2.out (bytesAt_news (HN.out.on (below_new w1 _))) (bcells_one _) Nat.two_pos HM1 HM2 (Nat.le_trans (Nat.le_trans X0.out.size HB1.out.size) (below_new w1 _).size) (w1.heap.size + 1) (HS2.out w1) ?_; intro g2 c2 w2 ho hg hat hlt; have HP2 := Lib.hid (body3_of HF.out ((B0.out.on HB1.out).on (below_new w1 _)) ((X0.out.trans (HB1.out.mono X0.out.size)).trans ((below_new w1 _).mono (Nat.le_trans X0.out.size HB1.out.size))) (OL.out w1 (Nat.le_trans X0.out.size HB1.out.size)) ho hg); clear ho hg hat hlt))
  all_goals
    obtain ⟨c0, c1, c2', c3⟩ := HP2.out.2.1.cells
    have kx : w2.cell? ⟨bb, oo, none⟩ = some (.int .i64 x) := (HP2.out.2.2.cell (lt_cell HC0.out)).trans HC0.out
    go_wp2_with (at_builtin; refine wpList_append_lies _ rfl _ _ 25 rfl w.heap.size 5 i0 _ 1 1 Tryd.underlying25 hi0 hz0 hz1 hz2 rfl (by omega) _ 3 (bcells (be 1 f ++ be 2 s)) rfl (HP2.out.1.alloc _) ⟨w2.heap.size, 0, none⟩ 2 2 [.int .u8 (255 * x), .int .u8 0] rfl rfl (World.news_of_block (cs := #[.int .u8 (255 * x), .int .u8 0]) (heap_alloc_new w2 _)) (by simp [Value.oneCell']) (by omega) (by unfold maxLen; omega) (by omega) (by have := HP2.out.2.2.size; simp; omega) (w2.heap.size + 1) (by simp) ?_)
    intro g4 c4 w4 ho hg hat hlt
    rw [← HBB.out] at ho
    have HP4 := Lib.hid (body_app (HP2.out.2.1.on (below_new _ _)) (HP2.out.2.2.trans ((below_new _ _).mono HP2.out.2.2.size)) (HP2.out.1.alloc _) ho (by rw [List.length_append, three_len, be_length]) hg)
    clear ho hg hat hlt kx c0 c1 c2' c3
    obtain ⟨c0, c1, c2', c3⟩ := HP4.out.2.1.cells
    have HR : Hid (CopyIs w (encF ⟨f, s, c, vs⟩) (.returned (.slice (some ⟨g4, 0, none⟩) 5 c4)) w4) := Lib.hid ⟨_, rfl, by rw [HE.out]; exact HP4.out.1, HP4.out.2.2⟩
    clear c0 c1 c2' c3
    go_wp2
    go_ret
    exact HR.out

set_option maxRecDepth 100000 in
set_option maxHeartbeats 8000000 in
theorem body_many (f s c : Int) (v : Value) (vs : List Int) (w : World) (hv : IntsAt w v vs) (hf : 1 ≤ f ∧ f ≤ 16) (_hl : vs.length ≤ 3000) (h15 : f = 15 ∨ f = 16) (h0 : 0 < vs.length) (hbits : f = 15 → Bits vs) : Calls Tryd.prog 31 #[.agg #[.int .i64 f, .int .i64 s, .int .i64 c, v]] w (CopyIs w (encF ⟨f, s, c, vs⟩)) := by
  obtain ⟨i0, hi0, hz0, hz1, hz2⟩ := info_parts info5
  have HV := Lib.hid hv
  obtain ⟨ao, cap, rfl, _⟩ := hv
  obtain ⟨wx, hwx⟩ : ∃ wx, wx = w.alloc (.cells #[.int .i64 f, .int .i64 s, .int .i64 c, .slice ao vs.length cap] 38) := ⟨_, rfl⟩
  have X0 : Hid (Below w.heap.size w wx) := Lib.hid (by rw [hwx]; exact below_new w _)
  have B0 : Hid (BoxQ wx w.heap.size f s c (.slice ao vs.length cap)) := Lib.hid (by rw [hwx]; exact heap_alloc_new w _)
  have hfw : IntKind.u8.wrap f = f := by rw [IntKind.wrap_u8']; omega
  have hsz : wx.heap.size = w.heap.size + 1 := by rw [hwx]; simp
  have HSZ := Lib.hid hsz
  clear hsz
  go_enter Tryd.func31, Tryd.ntmps31
  go_wp2_with fail
  rw [← hwx]
  clear hwx
  obtain ⟨k0, k1, _, _⟩ := B0.out.cells
  have h38 : (38 : Nat) ≠ 5 := by decide
  have HM1 : 1 + 2 ≤ maxLen := by unfold maxLen; omega
  have HM2 : (1 + 2) * 1 ≤ 140737488355328 := by omega
  have HL2 : Hid ((bcells (be 2 s)).length = 2 * 1) := Lib.hid (by rw [bcells_length, be_length])
  have HF := Lib.hid hf
  have n5 : (f == 5) = false := beq_eq_false_iff_ne.2 (by omega)
  have n6 : (f == 6) = false := beq_eq_false_iff_ne.2 (by omega)
  have n15 : 15 ≤ f := by omega
  have HE := Lib.hid (enc6 (s := s) (c := c) (vs := vs) h15)
  have HBI : Hid ((f == 15) = true → Bits vs) := Lib.hid (fun h => hbits (beq_iff_eq.1 h))
  have HLV := Lib.hid _hl
  have HDP := Lib.hid (datF_pos vs (f == 15) h0)
  have HDL := Lib.hid (datF_length vs (f == 15))
  have BD : Hid (Below wx.heap.size wx wx.drew) := Lib.hid (Below.refl _ wx).drew
  have BA : Hid (Below wx.heap.size wx (wx.alloc (.cells #[.int .u8 f] 5)).drew) := Lib.hid (below_new wx _).drew
  have OA : Hid ((wx.alloc (.cells #[.int .u8 f] 5)).drew.ownsRow w.heap.size 5 1 (.slice (some ⟨wx.heap.size, 0, none⟩) 1 1) 1 [.int .u8 f]) := Lib.hid (World.ownsRow_lit wx #[.int .u8 f] 1 X0.out.size (by unfold maxLen; omega) (by simp)).drew
  have OL : Hid (∀ w1 : World, w.heap.size ≤ w1.heap.size → (w1.alloc (.cells #[.int .u8 f] 5)).ownsRow w.heap.size 5 1 (.slice (some ⟨w1.heap.size, 0, none⟩) 1 1) 1 [.int .u8 f]) := Lib.hid (fun w1 h => World.ownsRow_lit w1 #[.int .u8 f] 1 h (by unfold maxLen; omega) (by simp))
  have HS2 : Hid (∀ w1 : World, (w1.alloc (.cells #[.int .u8 f] 5)).heap.size = w1.heap.size + 1) := Lib.hid (fun w1 => by simp)
  have t0 := (BA.out.cell (lt_cell k0)).trans k0
  have t1 := (BA.out.cell (lt_cell k1)).trans k1
  have h2len := be_length 2 s
  go_region_law (first
      | (go_simp; go_at_call 53; refine (two_any s _).mono ?_; rintro e w1 ⟨v1, rfl, ho, hb⟩; rw [h2len] at ho; obtain ⟨g1, q1, rfl, _, _⟩ := row_lit ho Nat.two_pos; have HN : Hid (BytesAt w1 (.slice (some ⟨g1, 0, none⟩) 2 q1) (be 2 s)) := Lib.hid (bytesAt_own' ho h2len); first | (have HB1 : Hid (Below wx.heap.size wx w1) := Lib.hid (BA.out.trans (hb.mono BA.out.size)); have HO : Hid (w1.ownsRow w.heap.size 5 1 (.slice (some ⟨wx.heap.size, 0, none⟩) 1 1) 1 [.int .u8 f]) := Lib.hid (ownsRow_off OA.out (Off.of_below (fun _ => False) hb) (fun _ _ f => f))) | (have HB1 : Hid (Below wx.heap.size wx w1) := Lib.hid (BD.out.trans hb)); have d0 := (HB1.out.cell (lt_cell k0)).trans k0; have d1 := (HB1.out.cell (lt_cell k1)).trans k1; clear ho hb; simp only [])
      | (refine step_append_lies _ rfl _ _ _ rfl w.heap.size 5 i0 _ 1 1 Tryd.underlying25 hi0 hz0 hz1 hz2 rfl Nat.one_pos (.slice (some ⟨wx.heap.size, 0, none⟩) 1 1) 1 [.int .u8 f] rfl HO.out ⟨g1, 0, none⟩ 2 q1 (bcells (be 2 s)) rfl HL2.out (bytesAt_news HN.out) (bcells_one _) Nat.two_pos HM1 HM2 (Nat.le_trans X0.out.size HB1.out.size) w1.heap.size rfl ?_; intro g2 c2 w2 ho hg hat hlt; have HP2 := Lib.hid (body3_of HF.out (B0.out.on HB1.out) (X0.out.trans (HB1.out.mono X0.out.size)) HO.out ho hg); clear ho hg hat hlt)
      | (refine step_append_lies _ rfl _ _ _ rfl w.heap.size 5 i0 _ 1 1 Tryd.underlying25 hi0 hz0 hz1 hz2 rfl Nat.one_pos (.slice (some ⟨w1.heap.size, 0, none⟩) 1 1) 1 [.int .u8 f] rfl (OL.out w1 (Nat.le_trans X0.out.size HB1.out.size)) ⟨g1, 0, none⟩ 2 q1 (bcells (be 2 s)) rfl HL2.out (bytesAt_news (HN.out.on (below_new w1 _))) (bcells_one _) Nat.two_pos HM1 HM2 (Nat.le_trans (Nat.le_trans X0.out.size HB1.out.size) (below_new w1 _).size) (w1.heap.size + 1) (HS2.out w1) ?_; intro g2 c2 w2 ho hg hat hlt; have HP2 := Lib.hid (body3_of HF.out ((B0.out.on HB1.out).on (below_new w1 _)) ((X0.out.trans (HB1.out.mono X0.out.size)).trans ((below_new w1 _).mono (Nat.le_trans X0.out.size HB1.out.size))) (OL.out w1 (Nat.le_trans X0.out.size HB1.out.size)) ho hg); clear ho hg hat hlt))
  all_goals
    obtain ⟨c0, c1, c2', c3⟩ := HP2.out.2.1.cells
    go_wp2_with fail
    refine (two_any c w2).mono ?_
    rintro e w3 ⟨v3, rfl, ho3, hb3⟩
    rw [be_length] at ho3
    obtain ⟨g3, q3, rfl, _, _⟩ := row_lit ho3 Nat.two_pos
    have N3 : Hid (BytesAt w3 (.slice (some ⟨g3, 0, none⟩) 2 q3) (be 2 c)) := Lib.hid (bytesAt_own' ho3 (be_length 2 c))
    have R3 := Lib.hid (ownsRow_off HP2.out.1 (Off.of_below (fun _ => False) hb3) (fun _ _ f => f))
    have Y3 := Lib.hid (HP2.out.2.1.on hb3)
    have X3 := Lib.hid (HP2.out.2.2.trans (hb3.mono HP2.out.2.2.size))
    clear ho3 hb3 c0 c1 c2' c3
    have HL3 : Hid ((bcells (be 2 c)).length = 2 * 1) := Lib.hid (by rw [bcells_length, be_length])
    go_wp2_with (at_builtin; refine wpList_append_lies _ rfl _ _ 25 rfl w.heap.size 5 i0 _ 1 1 Tryd.underlying25 hi0 hz0 hz1 hz2 rfl (by omega) _ 3 (bcells (be 1 f ++ be 2 s)) rfl R3.out ⟨g3, 0, none⟩ 2 q3 (bcells (be 2 c)) rfl HL3.out (bytesAt_news N3.out) (bcells_one _) (by omega) (by unfold maxLen; omega) (by omega) X3.out.size w3.heap.size rfl ?_)
    intro g4 c4 w4 ho hg hat hlt
    have HP4 := Lib.hid (body_app Y3.out X3.out R3.out ho (by rw [List.length_append, three_len, be_length]) hg)
    clear ho hg hat hlt
    obtain ⟨c0, c1, c2', c3⟩ := HP4.out.2.1.cells
    go_wp2_with fail
    refine (data_any _ vs (f == 15) w4 (HV.out.on HP4.out.2.2) HBI.out (by have := HLV.out; omega) h0).mono ?_
    rintro e w5 ⟨v5, rfl, ho5, hb5⟩
    have hcl : (cntF (datF vs (f == 15))).length = 1 + (datF vs (f == 15)).length := by unfold cntF; rw [List.length_append, be_length]
    have HCL := Lib.hid hcl
    clear hcl
    generalize hdd : cntF (datF vs (f == 15)) = dd at *
    obtain ⟨g5, q5, rfl, _, _⟩ := row_lit ho5 (by have := HCL.out; omega)
    have N5 : Hid (BytesAt w5 (.slice (some ⟨g5, 0, none⟩) dd.length q5) dd) := Lib.hid (bytesAt_own ho5)
    have R5 := Lib.hid (ownsRow_off HP4.out.1 (Off.of_below (fun _ => False) hb5) (fun _ _ f => f))
    have Y5 := Lib.hid (HP4.out.2.1.on hb5)
    have X5 := Lib.hid (HP4.out.2.2.trans (hb5.mono HP4.out.2.2.size))
    have HDD := Lib.hid hdd
    clear ho5 hb5 c0 c1 c2' c3 hdd
    have HL5 : Hid (dd.length ≤ 20000 ∧ 0 < dd.length) := Lib.hid (by have := HCL.out; have := HDL.out; have := HLV.out; omega)
    have h5len : ((be 1 f ++ be 2 s) ++ be 2 c).length = 5 := by rw [List.length_append, three_len, be_length]
    rw [h5len] at R5
    go_wp2_with (at_builtin; refine wpList_append_lies _ rfl _ _ 25 rfl w.heap.size 5 i0 _ 1 1 Tryd.underlying25 hi0 hz0 hz1 hz2 rfl (by omega) _ 5 (bcells ((be 1 f ++ be 2 s) ++ be 2 c)) rfl R5.out ⟨g5, 0, none⟩ dd.length q5 (bcells dd) rfl (by rw [bcells_length]; omega) (bytesAt_news N5.out) (bcells_one _) HL5.out.2 (by have := HL5.out.1; unfold maxLen; omega) (by have := HL5.out.1; omega) X5.out.size w5.heap.size rfl ?_)
    intro g6 c6 w6 ho hg hat hlt
    have HP6 := Lib.hid (body_app Y5.out X5.out R5.out ho (by rw [List.length_append, h5len]) hg)
    clear ho hg hat hlt
    have h6len : (((be 1 f ++ be 2 s) ++ be 2 c) ++ dd).length = 5 + dd.length := by rw [List.length_append, h5len]
    have HR : Hid (CopyIs w (encF ⟨f, s, c, vs⟩) (.returned (.slice (some ⟨g6, 0, none⟩) (5 + dd.length) c6)) w6) := Lib.hid ⟨_, rfl, by rw [HE.out]; have := HP6.out.1; rw [h6len] at this ⊢; exact this, HP6.out.2.2⟩
    clear h6len h5len
    go_wp2
    go_ret
    exact HR.out

end Go.Proofs.YtngfaailbkadfaaDoor
