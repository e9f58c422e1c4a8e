/- yardref7.told: the bytes of a reply. -/
import Derived.Test.YtngfaailbkadfaaDoorS1
import Derived.Test.YtngfaailbkadfaaDoorAny
import Derived.Deep.RegionLaw
import Derived.Deep.AppendLies
namespace Go.Proofs.YtngfaailbkadfaaDoor
open Go.RowKit Go.Extern.Stop Go.Stop Go.Extern

/-- Bytes of the call's own. -/
def ToldIs (w : World) (l : List UInt8) (e : Ending) (w' : World) : Prop := ∃ a n, e = .returned (.slice a l.length n) ∧ BytesAt w' (.slice a l.length n) l ∧ Below w.heap.size w w'
theorem two_cells (x y : Int) : bcells (be 1 x ++ be 1 y) = [.int .u8 (x % 256), .int .u8 (y % 256)] := by rw [bcells_append, qbe_one, qbe_one]; rfl
set_option maxRecDepth 100000 in
set_option maxHeartbeats 2000000 in
theorem told_code (f s c : Int) (v : Value) (code : Int) (pv : Value) (w : World) (hf : 1 ≤ f ∧ f ≤ 16) (h0 : 0 < code) (h1 : code ≤ 255) : Calls Tryd.prog 45 #[.agg #[.int .i64 f, .int .i64 s, .int .i64 c, v], .agg #[.int .i64 code, pv]] w (ToldIs w (be 1 (f + 128) ++ be 1 code)) := by
  have HB0 := rb_new w f s c v code pv
  obtain ⟨c0, c1, c2, c3⟩ := HB0.1.cells
  obtain ⟨d0, d1⟩ := HB0.pc
  have HX := Lib.hid HB0.2.2
  clear HB0
  have hw1 : IntKind.i64.wrap (f + 128) = f + 128 := by rw [IntKind.wrap_i64]; omega
  have hw2 : IntKind.u8.wrap (f + 128) = f + 128 := by rw [IntKind.wrap_u8']; omega
  have hw3 : IntKind.u8.wrap code = code := by rw [IntKind.wrap_u8']; omega
  obtain ⟨wx, hwx⟩ : ∃ wx, wx = (w.alloc (.cells #[.int .i64 f, .int .i64 s, .int .i64 c, v] 38)).alloc (.cells #[.int .i64 code, pv] 55) := ⟨_, rfl⟩
  have HR : Hid (ToldIs w (be 1 (f + 128) ++ be 1 code) (.returned (.slice (some ⟨w.heap.size + 1 + 1, 0, none⟩) 2 2)) (wx.alloc (.cells #[.int .u8 (f + 128), .int .u8 code] 5))) := Lib.hid (by
    have hsz : w.heap.size + 1 + 1 = wx.heap.size := by rw [hwx]; simp
    rw [hsz]
    refine ⟨_, _, rfl, ?_, ?_⟩
    · have h : (wx.alloc (.cells #[.int .u8 (f + 128), .int .u8 code] 5)).ownsRow wx.heap.size 5 1 (.slice (some ⟨wx.heap.size, 0, none⟩) 2 2) 2 [.int .u8 (f + 128), .int .u8 code] := World.ownsRow_lit wx #[.int .u8 (f + 128), .int .u8 code] 2 (Nat.le_refl _) (by unfold maxLen; omega) (by simp)
      refine bytesAt_own' (base := wx.heap.size) (n := 2) ?_ rfl
      rw [two_cells, show (f + 128) % 256 = f + 128 by omega, show code % 256 = code by omega]
      exact h
    · rw [hwx]
      exact HX.out.trans ((below_new _ _).mono HX.out.size))
  clear hf h1
  go_enter Tryd.func45, Tryd.ntmps45
  go_wp2
  try rw [← hwx]
  go_ret
  exact HR.out

set_option maxRecDepth 100000 in
set_option maxHeartbeats 8000000 in
theorem told_1 (s c : Int) (v : Value) (vs : List Int) (pv : Value) (w : World) (hp : IntsAt w pv vs) (hl : vs.length ≤ 3000) (h0 : 0 < vs.length) (hb : Bits vs) : Calls Tryd.prog 45 #[.agg #[.int .i64 1, .int .i64 s, .int .i64 c, v], .agg #[.int .i64 0, pv]] w (ToldIs w (be 1 1 ++ cntF (datF vs true))) := by
  obtain ⟨i0, hi0, hz0, hz1, hz2⟩ := info_parts info5
  have hfw : IntKind.u8.wrap 1 = 1 := by rfl
  have HB : Hid (true = true → Bits vs) := Lib.hid (fun h => hb)
  obtain ⟨pa, pn, rfl, _⟩ := id hp
  have HB0 := rb_new w 1 s c v 0 (.slice pa vs.length pn)
  obtain ⟨wx, hwx⟩ : ∃ wx, wx = (w.alloc (.cells #[.int .i64 1, .int .i64 s, .int .i64 c, v] 38)).alloc (.cells #[.int .i64 0, .slice pa vs.length pn] 55) := ⟨_, rfl⟩
  rw [← hwx] at HB0
  have R0 := Lib.hid HB0
  have dw0 : ((w.alloc (.cells #[.int .i64 1, .int .i64 s, .int .i64 c, v] 38)).alloc (.cells #[.int .i64 0, .slice pa vs.length pn] 55)).cell? ⟨w.heap.size + 1, 0, none⟩ = some (.int .i64 0) := by rw [← hwx]; exact HB0.pc.1
  have cw0 : ((w.alloc (.cells #[.int .i64 1, .int .i64 s, .int .i64 c, v] 38)).alloc (.cells #[.int .i64 0, .slice pa vs.length pn] 55)).cell? ⟨w.heap.size, 0, none⟩ = some (.int .i64 1) := by rw [← hwx]; exact HB0.1.cells.1
  obtain ⟨k0, _, _, _⟩ := HB0.1.cells
  obtain ⟨_, k1⟩ := HB0.pc
  have HV := Lib.hid (hp.on HB0.2.2)
  have X0 := Lib.hid HB0.2.2
  have HL := Lib.hid (And.intro hl h0)
  obtain ⟨m, hm⟩ : ∃ m, m = cntF (datF vs true) := ⟨_, rfl⟩
  have HM := Lib.hid hm
  obtain ⟨n, hn⟩ : ∃ n, m.length = n := ⟨_, rfl⟩
  have hnb : 0 < n ∧ n ≤ 100000 := by
    have h1 := datF_length vs true
    have h2 : m.length = 1 + (datF vs true).length := by rw [hm]; unfold cntF; rw [List.length_append, be_length]
    omega
  have HLEN := Lib.hid hn
  have HPOS := Lib.hid hnb.1
  have HM1 : 1 + n ≤ maxLen := by unfold maxLen; omega
  have HM2 : (1 + n) * 1 ≤ 140737488355328 := by omega
  have HL2 : Hid ((bcells m).length = n * 1) := Lib.hid (by rw [bcells_length, hn, Nat.mul_one])
  have DT : Hid (∀ W, IntsAt W (.slice pa vs.length pn) vs → Calls Tryd.prog 54 #[.slice pa vs.length pn, .bool true] W (CopyIs W m)) := Lib.hid (fun W h => by rw [HM.out]; exact data_any _ vs true W h HB.out (by have := HL.out; omega) HL.out.2)
  have BD : Hid (Below wx.heap.size wx wx.drew) := Lib.hid (Below.refl _ wx).drew
  have BA : Hid (Below wx.heap.size wx (wx.alloc (.cells #[.int .u8 1] 5)).drew) := Lib.hid (below_new wx _).drew
  have OA : Hid ((wx.alloc (.cells #[.int .u8 1] 5)).drew.ownsRow w.heap.size 5 1 (.slice (some ⟨wx.heap.size, 0, none⟩) 1 1) 1 [.int .u8 1]) := Lib.hid (World.ownsRow_lit wx #[.int .u8 1] 1 X0.out.size (by unfold maxLen; omega) (by simp)).drew
  have OL : Hid (∀ w1 : World, w.heap.size ≤ w1.heap.size → (w1.alloc (.cells #[.int .u8 1] 5)).ownsRow w.heap.size 5 1 (.slice (some ⟨w1.heap.size, 0, none⟩) 1 1) 1 [.int .u8 1]) := Lib.hid (fun w1 h => World.ownsRow_lit w1 #[.int .u8 1] 1 h (by unfold maxLen; omega) (by simp))
  have HS2 : Hid (∀ w1 : World, (w1.alloc (.cells #[.int .u8 1] 5)).heap.size = w1.heap.size + 1) := Lib.hid (fun w1 => by simp)
  have t0 := (BA.out.cell (lt_cell k0)).trans k0
  have t1 := (BA.out.cell (lt_cell k1)).trans k1
  have VD := Lib.hid (HV.out.on BD.out)
  have VA := Lib.hid (HV.out.on BA.out)
  have HFIN : Hid (∀ (w1 w2 : World) (u : Value) (g2 c2 : Nat), Below wx.heap.size wx w1 → w1.ownsRow w.heap.size 5 1 u 1 [.int .u8 1] → w2.ownsRow w.heap.size 5 1 (.slice (some ⟨g2, 0, none⟩) (1 + n) c2) (1 + n) ([.int .u8 1] ++ bcells m) → w1.grownBy w2 u.ownBlock → ToldIs w (be 1 1 ++ cntF (datF vs true)) (.returned (.slice (some ⟨g2, 0, none⟩) (1 + n) c2)) w2) := Lib.hid (fun w1 w2 u g2 c2 hb hu ho hg => by
    have hlen : (be 1 1 ++ cntF (datF vs true)).length = 1 + n := by rw [List.length_append, be_length, ← HM.out, HLEN.out]
    refine ⟨some ⟨g2, 0, none⟩, c2, by rw [hlen], ?_, ?_⟩
    · rw [hlen]
      refine bytesAt_own' (base := w.heap.size) (n := 1 + n) ?_ hlen
      rw [bcells_append, qbe_one, ← HM.out]
      exact ho
    · exact ((X0.out.trans (hb.mono X0.out.size)).grown hg (X0.out.trans (hb.mono X0.out.size)).size (fun j hj => (hu.lt j hj).1)))
  clear hp hl h0 hm hn hnb HB0 hb
  go_enter Tryd.func45, Tryd.ntmps45
  go_wp2_with fail
  rw [← hwx]
  clear hwx dw0 cw0
  go_region_law (first
      | (go_simp; go_at_call 54; refine (DT.out wx.drew VD.out).mono ?_; rintro e w1 ⟨v1, rfl, ho, hb⟩; rw [HLEN.out] at ho; obtain ⟨g1, q1, rfl, _, _⟩ := row_lit ho HPOS.out; have HN : Hid (BytesAt w1 (.slice (some ⟨g1, 0, none⟩) n q1) m) := Lib.hid (bytesAt_own' ho HLEN.out); have HB1 : Hid (Below wx.heap.size wx w1) := Lib.hid (BD.out.trans hb); have e0 := (HB1.out.cell (lt_cell k0)).trans k0; clear ho hb; simp only [])
      | (go_simp; go_at_call 54; refine (DT.out (wx.alloc (.cells #[.int .u8 1] 5)).drew VA.out).mono ?_; rintro e w1 ⟨v1, rfl, ho, hb⟩; rw [HLEN.out] at ho; obtain ⟨g1, q1, rfl, _, _⟩ := row_lit ho HPOS.out; have HN : Hid (BytesAt w1 (.slice (some ⟨g1, 0, none⟩) n q1) m) := Lib.hid (bytesAt_own' ho HLEN.out); have HB1 : Hid (Below wx.heap.size wx w1) := Lib.hid (BA.out.trans (hb.mono BA.out.size)); have HO : Hid (w1.ownsRow w.heap.size 5 1 (.slice (some ⟨wx.heap.size, 0, none⟩) 1 1) 1 [.int .u8 1]) := Lib.hid (ownsRow_off OA.out (Off.of_below (fun _ => False) hb) (fun _ _ f => f)); clear ho hb; simp only [])
      | (refine step_append_lies _ rfl _ _ _ rfl w.heap.size 5 i0 _ 1 1 Tryd.underlying25 hi0 hz0 hz1 hz2 rfl Nat.one_pos (.slice (some ⟨wx.heap.size, 0, none⟩) 1 1) 1 [.int .u8 1] rfl HO.out ⟨g1, 0, none⟩ n q1 (bcells m) rfl HL2.out (bytesAt_news HN.out) (bcells_one _) HPOS.out HM1 HM2 (Nat.le_trans X0.out.size HB1.out.size) w1.heap.size rfl ?_; intro g2 c2 w2 ho hg hat hlt; have HP2 := Lib.hid (HFIN.out w1 w2 _ g2 c2 HB1.out HO.out ho hg); clear ho hg hat hlt)
      | (refine step_append_lies _ rfl _ _ _ rfl w.heap.size 5 i0 _ 1 1 Tryd.underlying25 hi0 hz0 hz1 hz2 rfl Nat.one_pos (.slice (some ⟨w1.heap.size, 0, none⟩) 1 1) 1 [.int .u8 1] rfl (OL.out w1 (Nat.le_trans X0.out.size HB1.out.size)) ⟨g1, 0, none⟩ n q1 (bcells m) rfl HL2.out (bytesAt_news (HN.out.on (below_new w1 _))) (bcells_one _) HPOS.out HM1 HM2 (Nat.le_trans (Nat.le_trans X0.out.size HB1.out.size) (below_new w1 _).size) (w1.heap.size + 1) (HS2.out w1) ?_; intro g2 c2 w2 ho hg hat hlt; have HP2 := Lib.hid (HFIN.out _ w2 _ g2 c2 (HB1.out.trans ((below_new w1 (.cells #[.int .u8 1] 5)).mono HB1.out.size)) (OL.out w1 (Nat.le_trans X0.out.size HB1.out.size)) ho hg); clear ho hg hat hlt))
  all_goals
    go_wp2
    go_ret
    exact HP2.out

set_option maxRecDepth 100000 in
set_option maxHeartbeats 8000000 in
theorem told_2 (s c : Int) (v : Value) (vs : List Int) (pv : Value) (w : World) (hp : IntsAt w pv vs) (hl : vs.length ≤ 3000) (h0 : 0 < vs.length) (hb : Bits vs) : Calls Tryd.prog 45 #[.agg #[.int .i64 2, .int .i64 s, .int .i64 c, v], .agg #[.int .i64 0, pv]] w (ToldIs w (be 1 2 ++ cntF (datF vs true))) := by
  obtain ⟨i0, hi0, hz0, hz1, hz2⟩ := info_parts info5
  have hfw : IntKind.u8.wrap 2 = 2 := by rfl
  have HB : Hid (true = true → Bits vs) := Lib.hid (fun h => hb)
  obtain ⟨pa, pn, rfl, _⟩ := id hp
  have HB0 := rb_new w 2 s c v 0 (.slice pa vs.length pn)
  obtain ⟨wx, hwx⟩ : ∃ wx, wx = (w.alloc (.cells #[.int .i64 2, .int .i64 s, .int .i64 c, v] 38)).alloc (.cells #[.int .i64 0, .slice pa vs.length pn] 55) := ⟨_, rfl⟩
  rw [← hwx] at HB0
  have R0 := Lib.hid HB0
  have dw0 : ((w.alloc (.cells #[.int .i64 2, .int .i64 s, .int .i64 c, v] 38)).alloc (.cells #[.int .i64 0, .slice pa vs.length pn] 55)).cell? ⟨w.heap.size + 1, 0, none⟩ = some (.int .i64 0) := by rw [← hwx]; exact HB0.pc.1
  have cw0 : ((w.alloc (.cells #[.int .i64 2, .int .i64 s, .int .i64 c, v] 38)).alloc (.cells #[.int .i64 0, .slice pa vs.length pn] 55)).cell? ⟨w.heap.size, 0, none⟩ = some (.int .i64 2) := by rw [← hwx]; exact HB0.1.cells.1
  obtain ⟨k0, _, _, _⟩ := HB0.1.cells
  obtain ⟨_, k1⟩ := HB0.pc
  have HV := Lib.hid (hp.on HB0.2.2)
  have X0 := Lib.hid HB0.2.2
  have HL := Lib.hid (And.intro hl h0)
  obtain ⟨m, hm⟩ : ∃ m, m = cntF (datF vs true) := ⟨_, rfl⟩
  have HM := Lib.hid hm
  obtain ⟨n, hn⟩ : ∃ n, m.length = n := ⟨_, rfl⟩
  have hnb : 0 < n ∧ n ≤ 100000 := by
    have h1 := datF_length vs true
    have h2 : m.length = 1 + (datF vs true).length := by rw [hm]; unfold cntF; rw [List.length_append, be_length]
    omega
  have HLEN := Lib.hid hn
  have HPOS := Lib.hid hnb.1
  have HM1 : 1 + n ≤ maxLen := by unfold maxLen; omega
  have HM2 : (1 + n) * 1 ≤ 140737488355328 := by omega
  have HL2 : Hid ((bcells m).length = n * 1) := Lib.hid (by rw [bcells_length, hn, Nat.mul_one])
  have DT : Hid (∀ W, IntsAt W (.slice pa vs.length pn) vs → Calls Tryd.prog 54 #[.slice pa vs.length pn, .bool true] W (CopyIs W m)) := Lib.hid (fun W h => by rw [HM.out]; exact data_any _ vs true W h HB.out (by have := HL.out; omega) HL.out.2)
  have BD : Hid (Below wx.heap.size wx wx.drew) := Lib.hid (Below.refl _ wx).drew
  have BA : Hid (Below wx.heap.size wx (wx.alloc (.cells #[.int .u8 2] 5)).drew) := Lib.hid (below_new wx _).drew
  have OA : Hid ((wx.alloc (.cells #[.int .u8 2] 5)).drew.ownsRow w.heap.size 5 1 (.slice (some ⟨wx.heap.size, 0, none⟩) 1 1) 1 [.int .u8 2]) := Lib.hid (World.ownsRow_lit wx #[.int .u8 2] 1 X0.out.size (by unfold maxLen; omega) (by simp)).drew
  have OL : Hid (∀ w1 : World, w.heap.size ≤ w1.heap.size → (w1.alloc (.cells #[.int .u8 2] 5)).ownsRow w.heap.size 5 1 (.slice (some ⟨w1.heap.size, 0, none⟩) 1 1) 1 [.int .u8 2]) := Lib.hid (fun w1 h => World.ownsRow_lit w1 #[.int .u8 2] 1 h (by unfold maxLen; omega) (by simp))
  have HS2 : Hid (∀ w1 : World, (w1.alloc (.cells #[.int .u8 2] 5)).heap.size = w1.heap.size + 1) := Lib.hid (fun w1 => by simp)
  have t0 := (BA.out.cell (lt_cell k0)).trans k0
  have t1 := (BA.out.cell (lt_cell k1)).trans k1
  have VD := Lib.hid (HV.out.on BD.out)
  have VA := Lib.hid (HV.out.on BA.out)
  have HFIN : Hid (∀ (w1 w2 : World) (u : Value) (g2 c2 : Nat), Below wx.heap.size wx w1 → w1.ownsRow w.heap.size 5 1 u 1 [.int .u8 2] → w2.ownsRow w.heap.size 5 1 (.slice (some ⟨g2, 0, none⟩) (1 + n) c2) (1 + n) ([.int .u8 2] ++ bcells m) → w1.grownBy w2 u.ownBlock → ToldIs w (be 1 2 ++ cntF (datF vs true)) (.returned (.slice (some ⟨g2, 0, none⟩) (1 + n) c2)) w2) := Lib.hid (fun w1 w2 u g2 c2 hb hu ho hg => by
    have hlen : (be 1 2 ++ cntF (datF vs true)).length = 1 + n := by rw [List.length_append, be_length, ← HM.out, HLEN.out]
    refine ⟨some ⟨g2, 0, none⟩, c2, by rw [hlen], ?_, ?_⟩
    · rw [hlen]
      refine bytesAt_own' (base := w.heap.size) (n := 1 + n) ?_ hlen
      rw [bcells_append, qbe_one, ← HM.out]
      exact ho
    · exact ((X0.out.trans (hb.mono X0.out.size)).grown hg (X0.out.trans (hb.mono X0.out.size)).size (fun j hj => (hu.lt j hj).1)))
  clear hp hl h0 hm hn hnb HB0 hb
  go_enter Tryd.func45, Tryd.ntmps45
  go_wp2_with fail
  rw [← hwx]
  clear hwx dw0 cw0
  go_region_law (first
      | (go_simp; go_at_call 54; refine (DT.out wx.drew VD.out).mono ?_; rintro e w1 ⟨v1, rfl, ho, hb⟩; rw [HLEN.out] at ho; obtain ⟨g1, q1, rfl, _, _⟩ := row_lit ho HPOS.out; have HN : Hid (BytesAt w1 (.slice (some ⟨g1, 0, none⟩) n q1) m) := Lib.hid (bytesAt_own' ho HLEN.out); have HB1 : Hid (Below wx.heap.size wx w1) := Lib.hid (BD.out.trans hb); have e0 := (HB1.out.cell (lt_cell k0)).trans k0; clear ho hb; simp only [])
      | (go_simp; go_at_call 54; refine (DT.out (wx.alloc (.cells #[.int .u8 2] 5)).drew VA.out).mono ?_; rintro e w1 ⟨v1, rfl, ho, hb⟩; rw [HLEN.out] at ho; obtain ⟨g1, q1, rfl, _, _⟩ := row_lit ho HPOS.out; have HN : Hid (BytesAt w1 (.slice (some ⟨g1, 0, none⟩) n q1) m) := Lib.hid (bytesAt_own' ho HLEN.out); have HB1 : Hid (Below wx.heap.size wx w1) := Lib.hid (BA.out.trans (hb.mono BA.out.size)); have HO : Hid (w1.ownsRow w.heap.size 5 1 (.slice (some ⟨wx.heap.size, 0, none⟩) 1 1) 1 [.int .u8 2]) := Lib.hid (ownsRow_off OA.out (Off.of_below (fun _ => False) hb) (fun _ _ f => f)); clear ho hb; simp only [])
      | (refine step_append_lies _ rfl _ _ _ rfl w.heap.size 5 i0 _ 1 1 Tryd.underlying25 hi0 hz0 hz1 hz2 rfl Nat.one_pos (.slice (some ⟨wx.heap.size, 0, none⟩) 1 1) 1 [.int .u8 2] rfl HO.out ⟨g1, 0, none⟩ n q1 (bcells m) rfl HL2.out (bytesAt_news HN.out) (bcells_one _) HPOS.out HM1 HM2 (Nat.le_trans X0.out.size HB1.out.size) w1.heap.size rfl ?_; intro g2 c2 w2 ho hg hat hlt; have HP2 := Lib.hid (HFIN.out w1 w2 _ g2 c2 HB1.out HO.out ho hg); clear ho hg hat hlt)
      | (refine step_append_lies _ rfl _ _ _ rfl w.heap.size 5 i0 _ 1 1 Tryd.underlying25 hi0 hz0 hz1 hz2 rfl Nat.one_pos (.slice (some ⟨w1.heap.size, 0, none⟩) 1 1) 1 [.int .u8 2] rfl (OL.out w1 (Nat.le_trans X0.out.size HB1.out.size)) ⟨g1, 0, none⟩ n q1 (bcells m) rfl HL2.out (bytesAt_news (HN.out.on (below_new w1 _))) (bcells_one _) HPOS.out HM1 HM2 (Nat.le_trans (Nat.le_trans X0.out.size HB1.out.size) (below_new w1 _).size) (w1.heap.size + 1) (HS2.out w1) ?_; intro g2 c2 w2 ho hg hat hlt; have HP2 := Lib.hid (HFIN.out _ w2 _ g2 c2 (HB1.out.trans ((below_new w1 (.cells #[.int .u8 2] 5)).mono HB1.out.size)) (OL.out w1 (Nat.le_trans X0.out.size HB1.out.size)) ho hg); clear ho hg hat hlt))
  all_goals
    go_wp2
    go_ret
    exact HP2.out

set_option maxRecDepth 100000 in
set_option maxHeartbeats 8000000 in
theorem told_3 (s c : Int) (v : Value) (vs : List Int) (pv : Value) (w : World) (hp : IntsAt w pv vs) (hl : vs.length ≤ 3000) (h0 : 0 < vs.length) : Calls Tryd.prog 45 #[.agg #[.int .i64 3, .int .i64 s, .int .i64 c, v], .agg #[.int .i64 0, pv]] w (ToldIs w (be 1 3 ++ cntF (datF vs false))) := by
  obtain ⟨i0, hi0, hz0, hz1, hz2⟩ := info_parts info5
  have hfw : IntKind.u8.wrap 3 = 3 := by rfl
  have HB : Hid (false = true → Bits vs) := Lib.hid (fun h => by cases h)
  obtain ⟨pa, pn, rfl, _⟩ := id hp
  have HB0 := rb_new w 3 s c v 0 (.slice pa vs.length pn)
  obtain ⟨wx, hwx⟩ : ∃ wx, wx = (w.alloc (.cells #[.int .i64 3, .int .i64 s, .int .i64 c, v] 38)).alloc (.cells #[.int .i64 0, .slice pa vs.length pn] 55) := ⟨_, rfl⟩
  rw [← hwx] at HB0
  have R0 := Lib.hid HB0
  have dw0 : ((w.alloc (.cells #[.int .i64 3, .int .i64 s, .int .i64 c, v] 38)).alloc (.cells #[.int .i64 0, .slice pa vs.length pn] 55)).cell? ⟨w.heap.size + 1, 0, none⟩ = some (.int .i64 0) := by rw [← hwx]; exact HB0.pc.1
  have cw0 : ((w.alloc (.cells #[.int .i64 3, .int .i64 s, .int .i64 c, v] 38)).alloc (.cells #[.int .i64 0, .slice pa vs.length pn] 55)).cell? ⟨w.heap.size, 0, none⟩ = some (.int .i64 3) := by rw [← hwx]; exact HB0.1.cells.1
  obtain ⟨k0, _, _, _⟩ := HB0.1.cells
  obtain ⟨_, k1⟩ := HB0.pc
  have HV := Lib.hid (hp.on HB0.2.2)
  have X0 := Lib.hid HB0.2.2
  have HL := Lib.hid (And.intro hl h0)
  obtain ⟨m, hm⟩ : ∃ m, m = cntF (datF vs false) := ⟨_, rfl⟩
  have HM := Lib.hid hm
  obtain ⟨n, hn⟩ : ∃ n, m.length = n := ⟨_, rfl⟩
  have hnb : 0 < n ∧ n ≤ 100000 := by
    have h1 := datF_length vs false
    have h2 : m.length = 1 + (datF vs false).length := by rw [hm]; unfold cntF; rw [List.length_append, be_length]
    omega
  have HLEN := Lib.hid hn
  have HPOS := Lib.hid hnb.1
  have HM1 : 1 + n ≤ maxLen := by unfold maxLen; omega
  have HM2 : (1 + n) * 1 ≤ 140737488355328 := by omega
  have HL2 : Hid ((bcells m).length = n * 1) := Lib.hid (by rw [bcells_length, hn, Nat.mul_one])
  have DT : Hid (∀ W, IntsAt W (.slice pa vs.length pn) vs → Calls Tryd.prog 54 #[.slice pa vs.length pn, .bool false] W (CopyIs W m)) := Lib.hid (fun W h => by rw [HM.out]; exact data_any _ vs false W h HB.out (by have := HL.out; omega) HL.out.2)
  have BD : Hid (Below wx.heap.size wx wx.drew) := Lib.hid (Below.refl _ wx).drew
  have BA : Hid (Below wx.heap.size wx (wx.alloc (.cells #[.int .u8 3] 5)).drew) := Lib.hid (below_new wx _).drew
  have OA : Hid ((wx.alloc (.cells #[.int .u8 3] 5)).drew.ownsRow w.heap.size 5 1 (.slice (some ⟨wx.heap.size, 0, none⟩) 1 1) 1 [.int .u8 3]) := Lib.hid (World.ownsRow_lit wx #[.int .u8 3] 1 X0.out.size (by unfold maxLen; omega) (by simp)).drew
  have OL : Hid (∀ w1 : World, w.heap.size ≤ w1.heap.size → (w1.alloc (.cells #[.int .u8 3] 5)).ownsRow w.heap.size 5 1 (.slice (some ⟨w1.heap.size, 0, none⟩) 1 1) 1 [.int .u8 3]) := Lib.hid (fun w1 h => World.ownsRow_lit w1 #[.int .u8 3] 1 h (by unfold maxLen; omega) (by simp))
  have HS2 : Hid (∀ w1 : World, (w1.alloc (.cells #[.int .u8 3] 5)).heap.size = w1.heap.size + 1) := Lib.hid (fun w1 => by simp)
  have t0 := (BA.out.cell (lt_cell k0)).trans k0
  have t1 := (BA.out.cell (lt_cell k1)).trans k1
  have VD := Lib.hid (HV.out.on BD.out)
  have VA := Lib.hid (HV.out.on BA.out)
  have HFIN : Hid (∀ (w1 w2 : World) (u : Value) (g2 c2 : Nat), Below wx.heap.size wx w1 → w1.ownsRow w.heap.size 5 1 u 1 [.int .u8 3] → w2.ownsRow w.heap.size 5 1 (.slice (some ⟨g2, 0, none⟩) (1 + n) c2) (1 + n) ([.int .u8 3] ++ bcells m) → w1.grownBy w2 u.ownBlock → ToldIs w (be 1 3 ++ cntF (datF vs false)) (.returned (.slice (some ⟨g2, 0, none⟩) (1 + n) c2)) w2) := Lib.hid (fun w1 w2 u g2 c2 hb hu ho hg => by
    have hlen : (be 1 3 ++ cntF (datF vs false)).length = 1 + n := by rw [List.length_append, be_length, ← HM.out, HLEN.out]
    refine ⟨some ⟨g2, 0, none⟩, c2, by rw [hlen], ?_, ?_⟩
    · rw [hlen]
      refine bytesAt_own' (base := w.heap.size) (n := 1 + n) ?_ hlen
      rw [bcells_append, qbe_one, ← HM.out]
      exact ho
    · exact ((X0.out.trans (hb.mono X0.out.size)).grown hg (X0.out.trans (hb.mono X0.out.size)).size (fun j hj => (hu.lt j hj).1)))
  clear hp hl h0 hm hn hnb HB0
  go_enter Tryd.func45, Tryd.ntmps45
  go_wp2_with fail
  rw [← hwx]
  clear hwx dw0 cw0
  go_region_law (first
      | (go_simp; go_at_call 54; refine (DT.out wx.drew VD.out).mono ?_; rintro e w1 ⟨v1, rfl, ho, hb⟩; rw [HLEN.out] at ho; obtain ⟨g1, q1, rfl, _, _⟩ := row_lit ho HPOS.out; have HN : Hid (BytesAt w1 (.slice (some ⟨g1, 0, none⟩) n q1) m) := Lib.hid (bytesAt_own' ho HLEN.out); have HB1 : Hid (Below wx.heap.size wx w1) := Lib.hid (BD.out.trans hb); have e0 := (HB1.out.cell (lt_cell k0)).trans k0; clear ho hb; simp only [])
      | (go_simp; go_at_call 54; refine (DT.out (wx.alloc (.cells #[.int .u8 3] 5)).drew VA.out).mono ?_; rintro e w1 ⟨v1, rfl, ho, hb⟩; rw [HLEN.out] at ho; obtain ⟨g1, q1, rfl, _, _⟩ := row_lit ho HPOS.out; have HN : Hid (BytesAt w1 (.slice (some ⟨g1, 0, none⟩) n q1) m) := Lib.hid (bytesAt_own' ho HLEN.out); have HB1 : Hid (Below wx.heap.size wx w1) := Lib.hid (BA.out.trans (hb.mono BA.out.size)); have HO : Hid (w1.ownsRow w.heap.size 5 1 (.slice (some ⟨wx.heap.size, 0, none⟩) 1 1) 1 [.int .u8 3]) := Lib.hid (ownsRow_off OA.out (Off.of_below (fun _ => False) hb) (fun _ _ f => f)); clear ho hb; simp only [])
      | (refine step_append_lies _ rfl _ _ _ rfl w.heap.size 5 i0 _ 1 1 Tryd.underlying25 hi0 hz0 hz1 hz2 rfl Nat.one_pos (.slice (some ⟨wx.heap.size, 0, none⟩) 1 1) 1 [.int .u8 3] rfl HO.out ⟨g1, 0, none⟩ n q1 (bcells m) rfl HL2.out (bytesAt_news HN.out) (bcells_one _) HPOS.out HM1 HM2 (Nat.le_trans X0.out.size HB1.out.size) w1.heap.size rfl ?_; intro g2 c2 w2 ho hg hat hlt; have HP2 := Lib.hid (HFIN.out w1 w2 _ g2 c2 HB1.out HO.out ho hg); clear ho hg hat hlt)
      | (refine step_append_lies _ rfl _ _ _ rfl w.heap.size 5 i0 _ 1 1 Tryd.underlying25 hi0 hz0 hz1 hz2 rfl Nat.one_pos (.slice (some ⟨w1.heap.size, 0, none⟩) 1 1) 1 [.int .u8 3] rfl (OL.out w1 (Nat.le_trans X0.out.size HB1.out.size)) ⟨g1, 0, none⟩ n q1 (bcells m) rfl HL2.out (bytesAt_news (HN.out.on (below_new w1 _))) (bcells_one _) HPOS.out HM1 HM2 (Nat.le_trans (Nat.le_trans X0.out.size HB1.out.size) (below_new w1 _).size) (w1.heap.size + 1) (HS2.out w1) ?_; intro g2 c2 w2 ho hg hat hlt; have HP2 := Lib.hid (HFIN.out _ w2 _ g2 c2 (HB1.out.trans ((below_new w1 (.cells #[.int .u8 3] 5)).mono HB1.out.size)) (OL.out w1 (Nat.le_trans X0.out.size HB1.out.size)) ho hg); clear ho hg hat hlt))
  all_goals
    go_wp2
    go_ret
    exact HP2.out

set_option maxRecDepth 100000 in
set_option maxHeartbeats 8000000 in
theorem told_4 (s c : Int) (v : Value) (vs : List Int) (pv : Value) (w : World) (hp : IntsAt w pv vs) (hl : vs.length ≤ 3000) (h0 : 0 < vs.length) : Calls Tryd.prog 45 #[.agg #[.int .i64 4, .int .i64 s, .int .i64 c, v], .agg #[.int .i64 0, pv]] w (ToldIs w (be 1 4 ++ cntF (datF vs false))) := by
  obtain ⟨i0, hi0, hz0, hz1, hz2⟩ := info_parts info5
  have hfw : IntKind.u8.wrap 4 = 4 := by rfl
  have HB : Hid (false = true → Bits vs) := Lib.hid (fun h => by cases h)
  obtain ⟨pa, pn, rfl, _⟩ := id hp
  have HB0 := rb_new w 4 s c v 0 (.slice pa vs.length pn)
  obtain ⟨wx, hwx⟩ : ∃ wx, wx = (w.alloc (.cells #[.int .i64 4, .int .i64 s, .int .i64 c, v] 38)).alloc (.cells #[.int .i64 0, .slice pa vs.length pn] 55) := ⟨_, rfl⟩
  rw [← hwx] at HB0
  have R0 := Lib.hid HB0
  have dw0 : ((w.alloc (.cells #[.int .i64 4, .int .i64 s, .int .i64 c, v] 38)).alloc (.cells #[.int .i64 0, .slice pa vs.length pn] 55)).cell? ⟨w.heap.size + 1, 0, none⟩ = some (.int .i64 0) := by rw [← hwx]; exact HB0.pc.1
  have cw0 : ((w.alloc (.cells #[.int .i64 4, .int .i64 s, .int .i64 c, v] 38)).alloc (.cells #[.int .i64 0, .slice pa vs.length pn] 55)).cell? ⟨w.heap.size, 0, none⟩ = some (.int .i64 4) := by rw [← hwx]; exact HB0.1.cells.1
  obtain ⟨k0, _, _, _⟩ := HB0.1.cells
  obtain ⟨_, k1⟩ := HB0.pc
  have HV := Lib.hid (hp.on HB0.2.2)
  have X0 := Lib.hid HB0.2.2
  have HL := Lib.hid (And.intro hl h0)
  obtain ⟨m, hm⟩ : ∃ m, m = cntF (datF vs false) := ⟨_, rfl⟩
  have HM := Lib.hid hm
  obtain ⟨n, hn⟩ : ∃ n, m.length = n := ⟨_, rfl⟩
  have hnb : 0 < n ∧ n ≤ 100000 := by
    have h1 := datF_length vs false
    have h2 : m.length = 1 + (datF vs false).length := by rw [hm]; unfold cntF; rw [List.length_append, be_length]
    omega
  have HLEN := Lib.hid hn
  have HPOS := Lib.hid hnb.1
  have HM1 : 1 + n ≤ maxLen := by unfold maxLen; omega
  have HM2 : (1 + n) * 1 ≤ 140737488355328 := by omega
  have HL2 : Hid ((bcells m).length = n * 1) := Lib.hid (by rw [bcells_length, hn, Nat.mul_one])
  have DT : Hid (∀ W, IntsAt W (.slice pa vs.length pn) vs → Calls Tryd.prog 54 #[.slice pa vs.length pn, .bool false] W (CopyIs W m)) := Lib.hid (fun W h => by rw [HM.out]; exact data_any _ vs false W h HB.out (by have := HL.out; omega) HL.out.2)
  have BD : Hid (Below wx.heap.size wx wx.drew) := Lib.hid (Below.refl _ wx).drew
  have BA : Hid (Below wx.heap.size wx (wx.alloc (.cells #[.int .u8 4] 5)).drew) := Lib.hid (below_new wx _).drew
  have OA : Hid ((wx.alloc (.cells #[.int .u8 4] 5)).drew.ownsRow w.heap.size 5 1 (.slice (some ⟨wx.heap.size, 0, none⟩) 1 1) 1 [.int .u8 4]) := Lib.hid (World.ownsRow_lit wx #[.int .u8 4] 1 X0.out.size (by unfold maxLen; omega) (by simp)).drew
  have OL : Hid (∀ w1 : World, w.heap.size ≤ w1.heap.size → (w1.alloc (.cells #[.int .u8 4] 5)).ownsRow w.heap.size 5 1 (.slice (some ⟨w1.heap.size, 0, none⟩) 1 1) 1 [.int .u8 4]) := Lib.hid (fun w1 h => World.ownsRow_lit w1 #[.int .u8 4] 1 h (by unfold maxLen; omega) (by simp))
  have HS2 : Hid (∀ w1 : World, (w1.alloc (.cells #[.int .u8 4] 5)).heap.size = w1.heap.size + 1) := Lib.hid (fun w1 => by simp)
  have t0 := (BA.out.cell (lt_cell k0)).trans k0
  have t1 := (BA.out.cell (lt_cell k1)).trans k1
  have VD := Lib.hid (HV.out.on BD.out)
  have VA := Lib.hid (HV.out.on BA.out)
  have HFIN : Hid (∀ (w1 w2 : World) (u : Value) (g2 c2 : Nat), Below wx.heap.size wx w1 → w1.ownsRow w.heap.size 5 1 u 1 [.int .u8 4] → w2.ownsRow w.heap.size 5 1 (.slice (some ⟨g2, 0, none⟩) (1 + n) c2) (1 + n) ([.int .u8 4] ++ bcells m) → w1.grownBy w2 u.ownBlock → ToldIs w (be 1 4 ++ cntF (datF vs false)) (.returned (.slice (some ⟨g2, 0, none⟩) (1 + n) c2)) w2) := Lib.hid (fun w1 w2 u g2 c2 hb hu ho hg => by
    have hlen : (be 1 4 ++ cntF (datF vs false)).length = 1 + n := by rw [List.length_append, be_length, ← HM.out, HLEN.out]
    refine ⟨some ⟨g2, 0, none⟩, c2, by rw [hlen], ?_, ?_⟩
    · rw [hlen]
      refine bytesAt_own' (base := w.heap.size) (n := 1 + n) ?_ hlen
      rw [bcells_append, qbe_one, ← HM.out]
      exact ho
    · exact ((X0.out.trans (hb.mono X0.out.size)).grown hg (X0.out.trans (hb.mono X0.out.size)).size (fun j hj => (hu.lt j hj).1)))
  clear hp hl h0 hm hn hnb HB0
  go_enter Tryd.func45, Tryd.ntmps45
  go_wp2_with fail
  rw [← hwx]
  clear hwx dw0 cw0
  go_region_law (first
      | (go_simp; go_at_call 54; refine (DT.out wx.drew VD.out).mono ?_; rintro e w1 ⟨v1, rfl, ho, hb⟩; rw [HLEN.out] at ho; obtain ⟨g1, q1, rfl, _, _⟩ := row_lit ho HPOS.out; have HN : Hid (BytesAt w1 (.slice (some ⟨g1, 0, none⟩) n q1) m) := Lib.hid (bytesAt_own' ho HLEN.out); have HB1 : Hid (Below wx.heap.size wx w1) := Lib.hid (BD.out.trans hb); have e0 := (HB1.out.cell (lt_cell k0)).trans k0; clear ho hb; simp only [])
      | (go_simp; go_at_call 54; refine (DT.out (wx.alloc (.cells #[.int .u8 4] 5)).drew VA.out).mono ?_; rintro e w1 ⟨v1, rfl, ho, hb⟩; rw [HLEN.out] at ho; obtain ⟨g1, q1, rfl, _, _⟩ := row_lit ho HPOS.out; have HN : Hid (BytesAt w1 (.slice (some ⟨g1, 0, none⟩) n q1) m) := Lib.hid (bytesAt_own' ho HLEN.out); have HB1 : Hid (Below wx.heap.size wx w1) := Lib.hid (BA.out.trans (hb.mono BA.out.size)); have HO : Hid (w1.ownsRow w.heap.size 5 1 (.slice (some ⟨wx.heap.size, 0, none⟩) 1 1) 1 [.int .u8 4]) := Lib.hid (ownsRow_off OA.out (Off.of_below (fun _ => False) hb) (fun _ _ f => f)); clear ho hb; simp only [])
      | (refine step_append_lies _ rfl _ _ _ rfl w.heap.size 5 i0 _ 1 1 Tryd.underlying25 hi0 hz0 hz1 hz2 rfl Nat.one_pos (.slice (some ⟨wx.heap.size, 0, none⟩) 1 1) 1 [.int .u8 4] rfl HO.out ⟨g1, 0, none⟩ n q1 (bcells m) rfl HL2.out (bytesAt_news HN.out) (bcells_one _) HPOS.out HM1 HM2 (Nat.le_trans X0.out.size HB1.out.size) w1.heap.size rfl ?_; intro g2 c2 w2 ho hg hat hlt; have HP2 := Lib.hid (HFIN.out w1 w2 _ g2 c2 HB1.out HO.out ho hg); clear ho hg hat hlt)
      | (refine step_append_lies _ rfl _ _ _ rfl w.heap.size 5 i0 _ 1 1 Tryd.underlying25 hi0 hz0 hz1 hz2 rfl Nat.one_pos (.slice (some ⟨w1.heap.size, 0, none⟩) 1 1) 1 [.int .u8 4] rfl (OL.out w1 (Nat.le_trans X0.out.size HB1.out.size)) ⟨g1, 0, none⟩ n q1 (bcells m) rfl HL2.out (bytesAt_news (HN.out.on (below_new w1 _))) (bcells_one _) HPOS.out HM1 HM2 (Nat.le_trans (Nat.le_trans X0.out.size HB1.out.size) (below_new w1 _).size) (w1.heap.size + 1) (HS2.out w1) ?_; intro g2 c2 w2 ho hg hat hlt; have HP2 := Lib.hid (HFIN.out _ w2 _ g2 c2 (HB1.out.trans ((below_new w1 (.cells #[.int .u8 4] 5)).mono HB1.out.size)) (OL.out w1 (Nat.le_trans X0.out.size HB1.out.size)) ho hg); clear ho hg hat hlt))
  all_goals
    go_wp2
    go_ret
    exact HP2.out

/-- The first five bytes of a row. -/
theorem bytes_take {w : World} {b off cap n : Nat} {l : List UInt8} (h : BytesAt w (.slice (some ⟨b, off, none⟩) n cap) l) (k : Nat) (hk : k ≤ l.length) (cap' : Nat) : BytesAt w (.slice (some ⟨b, off, none⟩) k cap') (l.take k) := by
  obtain ⟨ao, c, e, hc⟩ := h
  simp only [Value.slice.injEq] at e
  obtain ⟨rfl, _, _⟩ := e
  refine ⟨some ⟨b, off, none⟩, cap', by rw [List.length_take, Nat.min_eq_left hk], fun i hi => ?_⟩
  rw [List.length_take] at hi
  obtain ⟨b', off', e, hcell⟩ := hc i (by omega)
  exact ⟨b', off', e, by simpa [List.getElem_take] using hcell⟩
set_option maxRecDepth 100000 in
set_option maxHeartbeats 2000000 in
theorem told_head (r : Rq) (u : Value) (pv : Value) (w : World) (hv : IntsAt w u r.vs) (hm : r.may = true) (hl : r.vs.length ≤ 3000) (hf : 4 < r.f) : Calls Tryd.prog 45 #[.agg #[.int .i64 r.f, .int .i64 r.s, .int .i64 r.c, u], .agg #[.int .i64 0, pv]] w (ToldIs w (headF r)) := by
  have HBD : Hid (∀ W, IntsAt W u r.vs → Calls Tryd.prog 31 #[.agg #[.int .i64 r.f, .int .i64 r.s, .int .i64 r.c, u]] W (CopyIs W (encF r))) := Lib.hid (fun W h => body_any r u W h hm hl)
  have HE := Lib.hid (And.intro (enc_take r) (encF_length hm))
  have HHL := Lib.hid (headF_length r)
  generalize encF r = out at *
  generalize headF r = hd at *
  obtain ⟨f, s, c, us⟩ := r
  dsimp only at *
  have HV := Lib.hid hv
  have HB0 := rb_new w f s c u 0 pv
  obtain ⟨c0, c1, c2, c3⟩ := HB0.1.cells
  obtain ⟨d0, d1⟩ := HB0.pc
  have HX := Lib.hid HB0.2.2
  obtain ⟨wx, hwx⟩ : ∃ wx, wx = (w.alloc (.cells #[.int .i64 f, .int .i64 s, .int .i64 c, u] 38)).alloc (.cells #[.int .i64 0, pv] 55) := ⟨_, rfl⟩
  rw [← hwx] at HX
  clear HB0 hv hm hl
  go_enter Tryd.func45, Tryd.ntmps45
  go_wp2_with fail
  rw [← hwx]
  clear hwx c0 c1 c2 c3 d0 d1
  refine (HBD.out wx (HV.out.on HX.out)).mono ?_
  rintro e w1 ⟨v1, rfl, ho, hb⟩
  have h5 := HE.out.2.1
  obtain ⟨g1, q1, rfl, _, _⟩ := row_lit ho (by omega)
  have hq : out.length ≤ q1 := row_cap ho
  have hq5 : (5 : Int) ≤ (q1 : Int) := by omega
  have HR : Hid (ToldIs w hd (.returned (.slice (some ⟨g1, 0, none⟩) 5 q1)) w1) := Lib.hid (by
    have h1 := bytes_take (bytesAt_own ho) 5 h5 q1
    rw [HE.out.1] at h1
    exact ⟨some ⟨g1, 0, none⟩, q1, by rw [HHL.out], by rw [HHL.out]; exact h1, HX.out.trans (hb.mono HX.out.size)⟩)
  clear ho hb h5 hq
  go_wp2
  go_ret
  exact HR.out
/-- told, for a request and a reply that may be. -/
theorem told_any (r : Rq) (p : Rp) (u pv : Value) (w : World) (hv : IntsAt w u r.vs) (hp : IntsAt w pv p.vs) (hm : r.may = true) (hr : mayR r p = true) (hl : r.vs.length ≤ 3000) (hlp : p.vs.length ≤ 3000) : Calls Tryd.prog 45 #[.agg #[.int .i64 r.f, .int .i64 r.s, .int .i64 r.c, u], .agg #[.int .i64 p.code, pv]] w (ToldIs w (ansF r p)) := by
  have hf := f_ok hm
  have hcode : 0 ≤ p.code ∧ p.code ≤ 255 := by
    have h1 : within p.code 0 255 = true := by
      have := hr
      unfold mayR at this
      rw [Bool.and_eq_true] at this
      exact this.1
    unfold within at h1
    simpa using h1
  unfold ansF
  by_cases hc0 : p.code = 0
  · rw [if_pos hc0, hc0]
    by_cases hrd : fReads r.f = true
    · rw [if_pos hrd]
      have h4 : r.f = 1 ∨ r.f = 2 ∨ r.f = 3 ∨ r.f = 4 := by unfold fReads at hrd; simpa using hrd
      have ha : areV p.vs r.c (fTop r.f) = true := by
        have := hr
        unfold mayR at this
        rw [Bool.and_eq_true, if_pos ⟨hc0, hrd⟩] at this
        exact this.2
      obtain ⟨ha1, ha2⟩ := areV_iff.1 ha
      have hc1 := (may_iff.1 hm).1.1
      have hpos : 0 < p.vs.length := by omega
      obtain ⟨f, s, c, us⟩ := r
      dsimp only at *
      have hput : ∀ cb, datF p.vs cb = dataF f p.vs → putF f p.vs = cntF (datF p.vs cb) := fun cb e => by unfold putF cntF; rw [e]
      rcases h4 with rfl | rfl | rfl | rfl
      · rw [hput true rfl]; exact told_1 s c u p.vs pv w hp hlp hpos (fun x hx => by have := ha2 x hx; have e : fTop 1 = 1 := by decide
                                                                                     omega)
      · rw [hput true rfl]; exact told_2 s c u p.vs pv w hp hlp hpos (fun x hx => by have := ha2 x hx; have e : fTop 2 = 1 := by decide
                                                                                     omega)
      · rw [hput false rfl]; exact told_3 s c u p.vs pv w hp hlp hpos
      · rw [hput false rfl]; exact told_4 s c u p.vs pv w hp hlp hpos
    · rw [if_neg hrd]
      exact told_head r u pv w hv hm hl (by
        have h4 : ¬ (r.f = 1 ∨ r.f = 2 ∨ r.f = 3 ∨ r.f = 4) := fun h => hrd (by unfold fReads; simpa using h)
        omega)
  · rw [if_neg hc0]
    exact told_code r.f r.s r.c u p.code pv w hf (by omega) hcode.2
end Go.Proofs.YtngfaailbkadfaaDoor
