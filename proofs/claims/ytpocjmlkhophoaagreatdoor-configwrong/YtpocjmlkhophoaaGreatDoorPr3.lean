/- config.flagsOf and putFields: the bytes of the fields ahead of the lists. -/
import Derived.Test.YtpocjmlkhophoaaGreatDoorPr2
namespace Go.Proofs.YtpocjmlkhophoaaGreatDoor
open Go.RowKit Go.Extern.Stop Go.Stop Go.Extern

def flagN (c : Cfg) : Int := if c.unsol then 1 else 0
theorem flags_any (c : Cfg) (sl po pt ct : Value) (w : World) : Calls Tryz.prog 92 #[cfgV c sl po pt ct] w fun e w' => e = .returned (.int .i64 (flagN c)) ∧ Below w.heap.size w w' := by
  have HB := Lib.hid (below_new w (.cells #[.int .i64 c.own, .int .i64 c.master, .bool c.unsol, .int .i64 c.reply, .int .i64 c.silence, .int .i64 c.retries, .int .i64 c.offline, .int .i64 c.select, .int .i64 c.confirm, .int .i64 c.frag, .int .i64 c.r0, .int .i64 c.r1, .int .i64 c.r2, sl, po, pt, ct] 28))
  unfold cfgV
  rcases Bool.eq_false_or_eq_true c.unsol with h | h
  · have E := Lib.hid (show flagN c = 1 by simp [flagN, h])
    go_enter Tryz.func92, Tryz.ntmps92
    go_wp2
    go_ret
    rw [E.out]
    rw [h] at HB
    exact ⟨rfl, HB.out⟩
  · have E := Lib.hid (show flagN c = 0 by simp [flagN, h])
    go_enter Tryz.func92, Tryz.ntmps92
    go_wp2
    go_ret
    rw [E.out]
    rw [h] at HB
    exact ⟨rfl, HB.out⟩
def fieldB (c : Cfg) : List UInt8 := leBytes 2 (c.own) ++ (leBytes 2 (c.master) ++ (leBytes 1 (flagN c) ++ (leBytes 2 (c.reply) ++ (leBytes 1 (c.silence) ++ (leBytes 1 (c.retries) ++ (leBytes 1 (c.offline) ++ (leBytes 2 (c.select) ++ (leBytes 2 (c.confirm) ++ (leBytes 2 (c.frag) ++ (leBytes 1 (c.r0) ++ (leBytes 1 (c.r1) ++ (leBytes 1 (c.r2)))))))))))))
/-- The numbers of the fields that their bytes hold. -/
structure FieldFits (c : Cfg) : Prop where
  own : UFits ((2 : Nat) : Int) (c.own)
  master : UFits ((2 : Nat) : Int) (c.master)
  flag : UFits ((1 : Nat) : Int) (flagN c)
  reply : UFits ((2 : Nat) : Int) (c.reply)
  silence : UFits ((1 : Nat) : Int) (c.silence)
  retries : UFits ((1 : Nat) : Int) (c.retries)
  offline : UFits ((1 : Nat) : Int) (c.offline)
  select : UFits ((2 : Nat) : Int) (c.select)
  confirm : UFits ((2 : Nat) : Int) (c.confirm)
  frag : UFits ((2 : Nat) : Int) (c.frag)
  r0 : UFits ((1 : Nat) : Int) (c.r0)
  r1 : UFits ((1 : Nat) : Int) (c.r1)
  r2 : UFits ((1 : Nat) : Int) (c.r2)

/-- The Writer behind i numbers of Room. -/
def RoomAcc (c : Cfg) (W0 w : World) (b : Nat) (l : List UInt8) (i : Nat) (wr : World) : Prop := St W0 b (match i with | 0 => l | 1 => l ++ leBytes 1 (c.r0) | 2 => (l ++ leBytes 1 (c.r0)) ++ leBytes 1 (c.r1) | _ => ((l ++ leBytes 1 (c.r0)) ++ leBytes 1 (c.r1)) ++ leBytes 1 (c.r2)) wr ∧ Keeps w wr
set_option maxRecDepth 100000 in
set_option maxHeartbeats 8000000 in
theorem putFields_any (c : Cfg) (sl po pt ct : Value) (W0 w : World) (b : Nat) (l : List UInt8) (h : St W0 b l w) (hl : l.length ≤ 10000) (hf : FieldFits c) : Calls Tryz.prog 48 #[.pointer (some ⟨b, 0, none⟩), cfgV c sl po pt ct] w (EIs W0 w b l (fieldB c)) := by
  have HF := Lib.hid hf
  have H0 : Hid (St W0 b l (w.alloc (.cells #[.int .i64 c.own, .int .i64 c.master, .bool c.unsol, .int .i64 c.reply, .int .i64 c.silence, .int .i64 c.retries, .int .i64 c.offline, .int .i64 c.select, .int .i64 c.confirm, .int .i64 c.frag, .int .i64 c.r0, .int .i64 c.r1, .int .i64 c.r2, sl, po, pt, ct] 28)) ∧ Keeps w (w.alloc (.cells #[.int .i64 c.own, .int .i64 c.master, .bool c.unsol, .int .i64 c.reply, .int .i64 c.silence, .int .i64 c.retries, .int .i64 c.offline, .int .i64 c.select, .int .i64 c.confirm, .int .i64 c.frag, .int .i64 c.r0, .int .i64 c.r1, .int .i64 c.r2, sl, po, pt, ct] 28)) ∧ CfgBox (w.alloc (.cells #[.int .i64 c.own, .int .i64 c.master, .bool c.unsol, .int .i64 c.reply, .int .i64 c.silence, .int .i64 c.retries, .int .i64 c.offline, .int .i64 c.select, .int .i64 c.confirm, .int .i64 c.frag, .int .i64 c.r0, .int .i64 c.r1, .int .i64 c.r2, sl, po, pt, ct] 28)) w.heap.size c sl po pt ct) := Lib.hid ⟨h.on (below_new _ _), Keeps.of (below_new _ _), cfgBox_new w c sl po pt ct⟩
  clear h hf
  unfold cfgV
  go_enter Tryz.func48, Tryz.ntmps48
  go_wp2_with fail
  refine (st_u W0 _ b l 2 (c.own) H0.out.1 (by first | omega | (simp [leBytes_length]; omega)) HF.out.own).mono ?_
  rintro e v0 ⟨rfl, hs, hk⟩
  have H1 : Hid (St W0 b (l ++ leBytes 2 (c.own)) v0 ∧ Keeps w v0 ∧ CfgBox v0 w.heap.size c sl po pt ct) := Lib.hid ⟨hs, H0.out.2.1.trans hk, hk _ _ _ (by decide) (by decide) H0.out.2.2⟩
  clear hs hk H0
  obtain ⟨c0x0, c0x1, c0x2, c0x3, c0x4, c0x5, c0x6, c0x7, c0x8, c0x9, c0x10, c0x11, c0x12⟩ := H1.out.2.2.fields
  go_wp2_with fail
  refine (st_u W0 _ b (l ++ leBytes 2 (c.own)) 2 (c.master) H1.out.1 (by first | omega | (simp [leBytes_length]; omega)) HF.out.master).mono ?_
  rintro e v1 ⟨rfl, hs, hk⟩
  have H2 : Hid (St W0 b ((l ++ leBytes 2 (c.own)) ++ leBytes 2 (c.master)) v1 ∧ Keeps w v1 ∧ CfgBox v1 w.heap.size c sl po pt ct) := Lib.hid ⟨hs, H1.out.2.1.trans hk, hk _ _ _ (by decide) (by decide) H1.out.2.2⟩
  clear hs hk H1
  obtain ⟨c1x0, c1x1, c1x2, c1x3, c1x4, c1x5, c1x6, c1x7, c1x8, c1x9, c1x10, c1x11, c1x12⟩ := H2.out.2.2.fields
  obtain ⟨l13, l14, l15, l16⟩ := H2.out.2.2.lists
  go_wp2_with fail
  refine (flags_any c _ _ _ _ _).mono ?_
  rintro e z ⟨rfl, hb⟩
  have G2 : Hid (St W0 b ((l ++ leBytes 2 (c.own)) ++ leBytes 2 (c.master)) z ∧ Keeps w z ∧ CfgBox z w.heap.size c sl po pt ct) := Lib.hid ⟨H2.out.1.on hb, H2.out.2.1.trans (Keeps.of hb), H2.out.2.2.on hb⟩
  clear hb H2
  have H2 := G2
  clear G2
  go_wp2_with fail
  refine (st_u W0 _ b ((l ++ leBytes 2 (c.own)) ++ leBytes 2 (c.master)) 1 (flagN c) H2.out.1 (by first | omega | (simp [leBytes_length]; omega)) HF.out.flag).mono ?_
  rintro e v2 ⟨rfl, hs, hk⟩
  have H3 : Hid (St W0 b (((l ++ leBytes 2 (c.own)) ++ leBytes 2 (c.master)) ++ leBytes 1 (flagN c)) v2 ∧ Keeps w v2 ∧ CfgBox v2 w.heap.size c sl po pt ct) := Lib.hid ⟨hs, H2.out.2.1.trans hk, hk _ _ _ (by decide) (by decide) H2.out.2.2⟩
  clear hs hk H2
  obtain ⟨c2x0, c2x1, c2x2, c2x3, c2x4, c2x5, c2x6, c2x7, c2x8, c2x9, c2x10, c2x11, c2x12⟩ := H3.out.2.2.fields
  go_wp2_with fail
  refine (st_u W0 _ b (((l ++ leBytes 2 (c.own)) ++ leBytes 2 (c.master)) ++ leBytes 1 (flagN c)) 2 (c.reply) H3.out.1 (by first | omega | (simp [leBytes_length]; omega)) HF.out.reply).mono ?_
  rintro e v3 ⟨rfl, hs, hk⟩
  have H4 : Hid (St W0 b ((((l ++ leBytes 2 (c.own)) ++ leBytes 2 (c.master)) ++ leBytes 1 (flagN c)) ++ leBytes 2 (c.reply)) v3 ∧ Keeps w v3 ∧ CfgBox v3 w.heap.size c sl po pt ct) := Lib.hid ⟨hs, H3.out.2.1.trans hk, hk _ _ _ (by decide) (by decide) H3.out.2.2⟩
  clear hs hk H3
  obtain ⟨c3x0, c3x1, c3x2, c3x3, c3x4, c3x5, c3x6, c3x7, c3x8, c3x9, c3x10, c3x11, c3x12⟩ := H4.out.2.2.fields
  go_wp2_with fail
  refine (st_u W0 _ b ((((l ++ leBytes 2 (c.own)) ++ leBytes 2 (c.master)) ++ leBytes 1 (flagN c)) ++ leBytes 2 (c.reply)) 1 (c.silence) H4.out.1 (by first | omega | (simp [leBytes_length]; omega)) HF.out.silence).mono ?_
  rintro e v4 ⟨rfl, hs, hk⟩
  have H5 : Hid (St W0 b (((((l ++ leBytes 2 (c.own)) ++ leBytes 2 (c.master)) ++ leBytes 1 (flagN c)) ++ leBytes 2 (c.reply)) ++ leBytes 1 (c.silence)) v4 ∧ Keeps w v4 ∧ CfgBox v4 w.heap.size c sl po pt ct) := Lib.hid ⟨hs, H4.out.2.1.trans hk, hk _ _ _ (by decide) (by decide) H4.out.2.2⟩
  clear hs hk H4
  obtain ⟨c4x0, c4x1, c4x2, c4x3, c4x4, c4x5, c4x6, c4x7, c4x8, c4x9, c4x10, c4x11, c4x12⟩ := H5.out.2.2.fields
  go_wp2_with fail
  refine (st_u W0 _ b (((((l ++ leBytes 2 (c.own)) ++ leBytes 2 (c.master)) ++ leBytes 1 (flagN c)) ++ leBytes 2 (c.reply)) ++ leBytes 1 (c.silence)) 1 (c.retries) H5.out.1 (by first | omega | (simp [leBytes_length]; omega)) HF.out.retries).mono ?_
  rintro e v5 ⟨rfl, hs, hk⟩
  have H6 : Hid (St W0 b ((((((l ++ leBytes 2 (c.own)) ++ leBytes 2 (c.master)) ++ leBytes 1 (flagN c)) ++ leBytes 2 (c.reply)) ++ leBytes 1 (c.silence)) ++ leBytes 1 (c.retries)) v5 ∧ Keeps w v5 ∧ CfgBox v5 w.heap.size c sl po pt ct) := Lib.hid ⟨hs, H5.out.2.1.trans hk, hk _ _ _ (by decide) (by decide) H5.out.2.2⟩
  clear hs hk H5
  obtain ⟨c5x0, c5x1, c5x2, c5x3, c5x4, c5x5, c5x6, c5x7, c5x8, c5x9, c5x10, c5x11, c5x12⟩ := H6.out.2.2.fields
  go_wp2_with fail
  refine (st_u W0 _ b ((((((l ++ leBytes 2 (c.own)) ++ leBytes 2 (c.master)) ++ leBytes 1 (flagN c)) ++ leBytes 2 (c.reply)) ++ leBytes 1 (c.silence)) ++ leBytes 1 (c.retries)) 1 (c.offline) H6.out.1 (by first | omega | (simp [leBytes_length]; omega)) HF.out.offline).mono ?_
  rintro e v6 ⟨rfl, hs, hk⟩
  have H7 : Hid (St W0 b (((((((l ++ leBytes 2 (c.own)) ++ leBytes 2 (c.master)) ++ leBytes 1 (flagN c)) ++ leBytes 2 (c.reply)) ++ leBytes 1 (c.silence)) ++ leBytes 1 (c.retries)) ++ leBytes 1 (c.offline)) v6 ∧ Keeps w v6 ∧ CfgBox v6 w.heap.size c sl po pt ct) := Lib.hid ⟨hs, H6.out.2.1.trans hk, hk _ _ _ (by decide) (by decide) H6.out.2.2⟩
  clear hs hk H6
  obtain ⟨c6x0, c6x1, c6x2, c6x3, c6x4, c6x5, c6x6, c6x7, c6x8, c6x9, c6x10, c6x11, c6x12⟩ := H7.out.2.2.fields
  go_wp2_with fail
  refine (st_u W0 _ b (((((((l ++ leBytes 2 (c.own)) ++ leBytes 2 (c.master)) ++ leBytes 1 (flagN c)) ++ leBytes 2 (c.reply)) ++ leBytes 1 (c.silence)) ++ leBytes 1 (c.retries)) ++ leBytes 1 (c.offline)) 2 (c.select) H7.out.1 (by first | omega | (simp [leBytes_length]; omega)) HF.out.select).mono ?_
  rintro e v7 ⟨rfl, hs, hk⟩
  have H8 : Hid (St W0 b ((((((((l ++ leBytes 2 (c.own)) ++ leBytes 2 (c.master)) ++ leBytes 1 (flagN c)) ++ leBytes 2 (c.reply)) ++ leBytes 1 (c.silence)) ++ leBytes 1 (c.retries)) ++ leBytes 1 (c.offline)) ++ leBytes 2 (c.select)) v7 ∧ Keeps w v7 ∧ CfgBox v7 w.heap.size c sl po pt ct) := Lib.hid ⟨hs, H7.out.2.1.trans hk, hk _ _ _ (by decide) (by decide) H7.out.2.2⟩
  clear hs hk H7
  obtain ⟨c7x0, c7x1, c7x2, c7x3, c7x4, c7x5, c7x6, c7x7, c7x8, c7x9, c7x10, c7x11, c7x12⟩ := H8.out.2.2.fields
  go_wp2_with fail
  refine (st_u W0 _ b ((((((((l ++ leBytes 2 (c.own)) ++ leBytes 2 (c.master)) ++ leBytes 1 (flagN c)) ++ leBytes 2 (c.reply)) ++ leBytes 1 (c.silence)) ++ leBytes 1 (c.retries)) ++ leBytes 1 (c.offline)) ++ leBytes 2 (c.select)) 2 (c.confirm) H8.out.1 (by first | omega | (simp [leBytes_length]; omega)) HF.out.confirm).mono ?_
  rintro e v8 ⟨rfl, hs, hk⟩
  have H9 : Hid (St W0 b (((((((((l ++ leBytes 2 (c.own)) ++ leBytes 2 (c.master)) ++ leBytes 1 (flagN c)) ++ leBytes 2 (c.reply)) ++ leBytes 1 (c.silence)) ++ leBytes 1 (c.retries)) ++ leBytes 1 (c.offline)) ++ leBytes 2 (c.select)) ++ leBytes 2 (c.confirm)) v8 ∧ Keeps w v8 ∧ CfgBox v8 w.heap.size c sl po pt ct) := Lib.hid ⟨hs, H8.out.2.1.trans hk, hk _ _ _ (by decide) (by decide) H8.out.2.2⟩
  clear hs hk H8
  obtain ⟨c8x0, c8x1, c8x2, c8x3, c8x4, c8x5, c8x6, c8x7, c8x8, c8x9, c8x10, c8x11, c8x12⟩ := H9.out.2.2.fields
  go_wp2_with fail
  refine (st_u W0 _ b (((((((((l ++ leBytes 2 (c.own)) ++ leBytes 2 (c.master)) ++ leBytes 1 (flagN c)) ++ leBytes 2 (c.reply)) ++ leBytes 1 (c.silence)) ++ leBytes 1 (c.retries)) ++ leBytes 1 (c.offline)) ++ leBytes 2 (c.select)) ++ leBytes 2 (c.confirm)) 2 (c.frag) H9.out.1 (by first | omega | (simp [leBytes_length]; omega)) HF.out.frag).mono ?_
  rintro e v9 ⟨rfl, hs, hk⟩
  have H10 : Hid (St W0 b ((((((((((l ++ leBytes 2 (c.own)) ++ leBytes 2 (c.master)) ++ leBytes 1 (flagN c)) ++ leBytes 2 (c.reply)) ++ leBytes 1 (c.silence)) ++ leBytes 1 (c.retries)) ++ leBytes 1 (c.offline)) ++ leBytes 2 (c.select)) ++ leBytes 2 (c.confirm)) ++ leBytes 2 (c.frag)) v9 ∧ Keeps w v9 ∧ CfgBox v9 w.heap.size c sl po pt ct) := Lib.hid ⟨hs, H9.out.2.1.trans hk, hk _ _ _ (by decide) (by decide) H9.out.2.2⟩
  clear hs hk H9
  obtain ⟨c9x0, c9x1, c9x2, c9x3, c9x4, c9x5, c9x6, c9x7, c9x8, c9x9, c9x10, c9x11, c9x12⟩ := H10.out.2.2.fields
  have R0 : Hid (RoomAcc c W0 w b (((((((((((l ++ leBytes 2 (c.own)) ++ leBytes 2 (c.master)) ++ leBytes 1 (flagN c)) ++ leBytes 2 (c.reply)) ++ leBytes 1 (c.silence)) ++ leBytes 1 (c.retries)) ++ leBytes 1 (c.offline)) ++ leBytes 2 (c.select)) ++ leBytes 2 (c.confirm)) ++ leBytes 2 (c.frag))) 0 v9) := Lib.hid ⟨H10.out.1, H10.out.2.1⟩
  clear H10
  go_wp2
  clear c9x0 c9x1 c9x2 c9x3 c9x4 c9x5 c9x6 c9x7 c9x8 c9x9 c9x10 c9x11 c9x12
  go_loopg [48] 3 (fun k s wr => ∃ i : Nat, i ≤ 3 ∧ k = 3 - i ∧ s = .int .i64 i ∧ Hid (RoomAcc c W0 w b (((((((((((l ++ leBytes 2 (c.own)) ++ leBytes 2 (c.master)) ++ leBytes 1 (flagN c)) ++ leBytes 2 (c.reply)) ++ leBytes 1 (c.silence)) ++ leBytes 1 (c.retries)) ++ leBytes 1 (c.offline)) ++ leBytes 2 (c.select)) ++ leBytes 2 (c.confirm)) ++ leBytes 2 (c.frag))) i wr))
  case atStart => exact ⟨0, Nat.zero_le _, rfl, rfl, R0⟩
  case round =>
    obtain ⟨k, hk, rfl, rfl, HI⟩ := hrel
    have h4 : k = 0 ∨ k = 1 ∨ k = 2 ∨ k = 3 := by omega
    clear hk
    rcases h4 with rfl | rfl | rfl | rfl
    · have x := ix0
      go_wp2_with fail
      refine (st_u W0 _ b ((((((((((l ++ leBytes 2 (c.own)) ++ leBytes 2 (c.master)) ++ leBytes 1 (flagN c)) ++ leBytes 2 (c.reply)) ++ leBytes 1 (c.silence)) ++ leBytes 1 (c.retries)) ++ leBytes 1 (c.offline)) ++ leBytes 2 (c.select)) ++ leBytes 2 (c.confirm)) ++ leBytes 2 (c.frag)) 1 c.r0 HI.out.1 (by simp [leBytes_length]; omega) HF.out.r0).mono ?_
      rintro e z ⟨rfl, hs, hk⟩
      have HN : Hid (RoomAcc c W0 w b (((((((((((l ++ leBytes 2 (c.own)) ++ leBytes 2 (c.master)) ++ leBytes 1 (flagN c)) ++ leBytes 2 (c.reply)) ++ leBytes 1 (c.silence)) ++ leBytes 1 (c.retries)) ++ leBytes 1 (c.offline)) ++ leBytes 2 (c.select)) ++ leBytes 2 (c.confirm)) ++ leBytes 2 (c.frag))) 1 z) := Lib.hid ⟨hs, HI.out.2.trans hk⟩
      clear hs hk
      go_wp2
      go_roundg 2
      case measure => omega
      case rel => exact ⟨1, by omega, rfl, rfl, HN⟩
    · have x := ix1
      go_wp2_with fail
      refine (st_u W0 _ b (((((((((((l ++ leBytes 2 (c.own)) ++ leBytes 2 (c.master)) ++ leBytes 1 (flagN c)) ++ leBytes 2 (c.reply)) ++ leBytes 1 (c.silence)) ++ leBytes 1 (c.retries)) ++ leBytes 1 (c.offline)) ++ leBytes 2 (c.select)) ++ leBytes 2 (c.confirm)) ++ leBytes 2 (c.frag)) ++ leBytes 1 (c.r0)) 1 c.r1 HI.out.1 (by simp [leBytes_length]; omega) HF.out.r1).mono ?_
      rintro e z ⟨rfl, hs, hk⟩
      have HN : Hid (RoomAcc c W0 w b (((((((((((l ++ leBytes 2 (c.own)) ++ leBytes 2 (c.master)) ++ leBytes 1 (flagN c)) ++ leBytes 2 (c.reply)) ++ leBytes 1 (c.silence)) ++ leBytes 1 (c.retries)) ++ leBytes 1 (c.offline)) ++ leBytes 2 (c.select)) ++ leBytes 2 (c.confirm)) ++ leBytes 2 (c.frag))) 2 z) := Lib.hid ⟨hs, HI.out.2.trans hk⟩
      clear hs hk
      go_wp2
      go_roundg 1
      case measure => omega
      case rel => exact ⟨2, by omega, rfl, rfl, HN⟩
    · have x := ix2
      go_wp2_with fail
      refine (st_u W0 _ b ((((((((((((l ++ leBytes 2 (c.own)) ++ leBytes 2 (c.master)) ++ leBytes 1 (flagN c)) ++ leBytes 2 (c.reply)) ++ leBytes 1 (c.silence)) ++ leBytes 1 (c.retries)) ++ leBytes 1 (c.offline)) ++ leBytes 2 (c.select)) ++ leBytes 2 (c.confirm)) ++ leBytes 2 (c.frag)) ++ leBytes 1 (c.r0)) ++ leBytes 1 (c.r1)) 1 c.r2 HI.out.1 (by simp [leBytes_length]; omega) HF.out.r2).mono ?_
      rintro e z ⟨rfl, hs, hk⟩
      have HN : Hid (RoomAcc c W0 w b (((((((((((l ++ leBytes 2 (c.own)) ++ leBytes 2 (c.master)) ++ leBytes 1 (flagN c)) ++ leBytes 2 (c.reply)) ++ leBytes 1 (c.silence)) ++ leBytes 1 (c.retries)) ++ leBytes 1 (c.offline)) ++ leBytes 2 (c.select)) ++ leBytes 2 (c.confirm)) ++ leBytes 2 (c.frag))) 3 z) := Lib.hid ⟨hs, HI.out.2.trans hk⟩
      clear hs hk
      go_wp2
      go_roundg 0
      case measure => omega
      case rel => exact ⟨3, by omega, rfl, rfl, HN⟩
    · go_wp2
      go_end0
      refine ⟨rfl, ?_, HI.out.2⟩
      have := HI.out.1
      simpa [fieldB, List.append_assoc] using this

end Go.Proofs.YtpocjmlkhophoaaGreatDoor
