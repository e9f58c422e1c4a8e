/- A Writer that is written into, one field behind the other; config.putSlave, putPoll, putPoint, putControl. -/
import Derived.Test.YtpocjmlkhophoaaGreatDoorCk7
namespace Go.Proofs.YtpocjmlkhophoaaGreatDoor
open Go.RowKit Go.Extern.Stop Go.Stop Go.Extern

/-- A Writer made behind W0, with the bytes l; all that W0 had stands. -/
def St (W0 : World) (b : Nat) (l : List UInt8) (w : World) : Prop := ∃ v, WrAt w W0.heap.size b v l ∧ Below W0.heap.size W0 w
/-- Blocks that are no bytes and no Writer stand. -/
def Keeps (w w' : World) : Prop := ∀ (k : Nat) (cs : Array Value) (t : TypeId), t ≠ 5 → t ≠ 136 → w.heap[k]? = some (.cells cs t (0, 0)) → w'.heap[k]? = some (.cells cs t (0, 0))
theorem Keeps.refl (w : World) : Keeps w w := fun _ _ _ _ _ h => h
theorem Keeps.trans {a b c : World} (h : Keeps a b) (k : Keeps b c) : Keeps a c := fun i cs t h1 h2 h3 => k i cs t h1 h2 (h i cs t h1 h2 h3)
theorem Keeps.of {w w' : World} (hb : Below w.heap.size w w') : Keeps w w' := fun _ _ _ _ _ h => (hb.block _ (lt_heap h)).trans h
theorem St.on {W0 w w' : World} {b : Nat} {l : List UInt8} (h : St W0 b l w) (hb : Below w.heap.size w w') : St W0 b l w' := by
  obtain ⟨v, h1, h2⟩ := h
  exact ⟨v, h1.on hb, h2.trans (hb.mono h2.size)⟩
theorem put_st {W0 w w' : World} {b : Nat} {v : Value} {l m : List UInt8} (h : WrAt w W0.heap.size b v l) (hb : Below W0.heap.size W0 w) (hp : PutIs w W0.heap.size b v l m w') : St W0 b (l ++ m) w' ∧ Keeps w w' := by
  obtain ⟨v', hw, ho, _⟩ := hp
  refine ⟨⟨v', hw, hb.trans (ho.below hb.size ?_)⟩, fun k cs t h5 h136 hk => ?_⟩
  · intro k hk
    rcases hk with rfl | hk
    · exact h.base
    · exact (h.own.lt k hk).1
  · refine (ho.block k (lt_heap hk) ?_).trans hk
    rintro (rfl | e)
    · rw [h.obj] at hk
      simp only [Option.some.injEq, Obj.cells.injEq] at hk
      exact h136 hk.2.1.symm
    · exact row_no h.own hk h5 e
/-- What a put leaves. -/
def UIs (W0 w : World) (b : Nat) (l m : List UInt8) (e : Ending) (w' : World) : Prop := e = .returned .nilIface ∧ St W0 b (l ++ m) w' ∧ Keeps w w'
theorem st_u (W0 w : World) (b : Nat) (l : List UInt8) (n : Nat) (x : Int) (h : St W0 b l w) (hl : l.length ≤ 100000) (hx : UFits n x) : Calls Tryz.prog 57 #[.pointer (some ⟨b, 0, none⟩), .int .i64 (n : Int), .int .i64 x] w (UIs W0 w b l (leBytes n x)) := by
  obtain ⟨v, h1, h2⟩ := h
  refine (wu_ok _ b v l n x w h1 (by omega) hx).mono ?_
  rintro e w' ⟨rfl, hp⟩
  exact ⟨rfl, put_st h1 h2 hp⟩
theorem st_i (W0 w : World) (b : Nat) (l : List UInt8) (n : Nat) (x : Int) (h : St W0 b l w) (hl : l.length ≤ 100000) (hx : SFits n x) : Calls Tryz.prog 93 #[.pointer (some ⟨b, 0, none⟩), .int .i64 (n : Int), .int .i64 x] w (UIs W0 w b l (leBytes n x)) := by
  obtain ⟨v, h1, h2⟩ := h
  refine (wi_ok _ b v l n x w h1 (by omega) hx).mono ?_
  rintro e w' ⟨rfl, hp⟩
  exact ⟨rfl, put_st h1 h2 hp⟩
theorem fit_u {x : Int} (n : Nat) (hn : n = 1 ∨ n = 2 ∨ n = 4) (h0 : 0 ≤ x) (h1 : n = 1 → x < 256) (h2 : n = 2 → x < 65536) (h4 : n = 4 → x < 4294967296) : UFits n x := by
  rcases hn with rfl | rfl | rfl
  · exact ⟨by omega, h0, by have := h1 rfl; simpa using this⟩
  · exact ⟨by omega, h0, by have := h2 rfl; simpa using this⟩
  · exact ⟨by omega, h0, by have := h4 rfl; simpa using this⟩
theorem u1 {x : Int} (h0 : 0 ≤ x) (h1 : x < 256) : UFits ((1 : Nat) : Int) x := fit_u 1 (by omega) h0 (fun _ => h1) (by omega) (by omega)
theorem u2 {x : Int} (h0 : 0 ≤ x) (h1 : x < 65536) : UFits ((2 : Nat) : Int) x := fit_u 2 (by omega) h0 (by omega) (fun _ => h1) (by omega)
theorem u4 {x : Int} (h0 : 0 ≤ x) (h1 : x < 4294967296) : UFits ((4 : Nat) : Int) x := fit_u 4 (by omega) h0 (by omega) (by omega) (fun _ => h1)
theorem s2 {x : Int} (h0 : -32768 ≤ x) (h1 : x < 32768) : SFits ((2 : Nat) : Int) x := ⟨by omega, by show -((256 ^ 2 : Nat) : Int) ≤ 2 * x; omega, by show 2 * x < ((256 ^ 2 : Nat) : Int); omega⟩
theorem s4 {x : Int} (h0 : -2147483648 ≤ x) (h1 : x < 2147483648) : SFits ((4 : Nat) : Int) x := ⟨by omega, by show -((256 ^ 4 : Nat) : Int) ≤ 2 * x; omega, by show 2 * x < ((256 ^ 4 : Nat) : Int); omega⟩

def pollB (p : Poll) : List UInt8 := leBytes 1 p.slave ++ (leBytes 1 p.func ++ (leBytes 2 p.start ++ (leBytes 1 p.count ++ leBytes 2 p.every)))
def ptB (p : Pt) : List UInt8 := leBytes 1 p.kind ++ (leBytes 1 p.poll ++ (leBytes 1 p.place ++ (leBytes 1 p.cls ++ (leBytes 4 p.dead ++ (leBytes 2 p.num ++ (leBytes 2 p.den ++ leBytes 4 p.off))))))
def ctlB (p : Ctl) : List UInt8 := leBytes 1 p.kind ++ (leBytes 1 p.slave ++ leBytes 2 p.reg)
/-- What a put of an element leaves. -/
def EIs (W0 w : World) (b : Nat) (l m : List UInt8) (e : Ending) (w' : World) : Prop := e = .returned (.tuple #[]) ∧ St W0 b (l ++ m) w' ∧ Keeps w w'
/-- The numbers of a poll that its bytes hold. -/
def PollFits (p : Poll) : Prop := UFits ((1 : Nat) : Int) p.slave ∧ UFits ((1 : Nat) : Int) p.func ∧ UFits ((2 : Nat) : Int) p.start ∧ UFits ((1 : Nat) : Int) p.count ∧ UFits ((2 : Nat) : Int) p.every
def PtFits (p : Pt) : Prop := UFits ((1 : Nat) : Int) p.kind ∧ UFits ((1 : Nat) : Int) p.poll ∧ UFits ((1 : Nat) : Int) p.place ∧ UFits ((1 : Nat) : Int) p.cls ∧ UFits ((4 : Nat) : Int) p.dead ∧ SFits ((2 : Nat) : Int) p.num ∧ UFits ((2 : Nat) : Int) p.den ∧ SFits ((4 : Nat) : Int) p.off
def CtlFits (p : Ctl) : Prop := UFits ((1 : Nat) : Int) p.kind ∧ UFits ((1 : Nat) : Int) p.slave ∧ UFits ((2 : Nat) : Int) p.reg
set_option maxHeartbeats 1000000 in
theorem putSlave_any (W0 w : World) (b : Nat) (l : List UInt8) (x : Int) (h : St W0 b l w) (hl : l.length ≤ 50000) (hx : UFits ((1 : Nat) : Int) x) : Calls Tryz.prog 50 #[.pointer (some ⟨b, 0, none⟩), .int .i64 x] w (EIs W0 w b l (leBytes 1 x)) := by
  have H := Lib.hid h
  have HX := Lib.hid hx
  clear h hx
  go_enter Tryz.func50, Tryz.ntmps50
  go_wp2_with fail
  refine (st_u W0 w b l 1 x H.out (by omega) HX.out).mono ?_
  rintro e w1 ⟨rfl, hs, hk⟩
  have HS := Lib.hid (And.intro hs hk)
  clear hs hk
  go_wp2
  go_end0
  exact ⟨rfl, HS.out⟩

theorem cells3 {w : World} {k : Nat} {a0 a1 a2 : Value} {t : TypeId} (h : w.heap[k]? = some (.cells #[a0, a1, a2] t (0, 0))) : w.cell? ⟨k, 0, none⟩ = some a0 ∧ w.cell? ⟨k, 1, none⟩ = some a1 ∧ w.cell? ⟨k, 2, none⟩ = some a2 := by
  refine ⟨?_, ?_, ?_⟩ <;> (rw [cell_of_row _ _ _ _ _ _ h]; rfl)
theorem cells5 {w : World} {k : Nat} {a0 a1 a2 a3 a4 : Value} {t : TypeId} (h : w.heap[k]? = some (.cells #[a0, a1, a2, a3, a4] t (0, 0))) : w.cell? ⟨k, 0, none⟩ = some a0 ∧ w.cell? ⟨k, 1, none⟩ = some a1 ∧ w.cell? ⟨k, 2, none⟩ = some a2 ∧ w.cell? ⟨k, 3, none⟩ = some a3 ∧ w.cell? ⟨k, 4, none⟩ = some a4 := by
  refine ⟨?_, ?_, ?_, ?_, ?_⟩ <;> (rw [cell_of_row _ _ _ _ _ _ h]; rfl)
theorem cells8 {w : World} {k : Nat} {a0 a1 a2 a3 a4 a5 a6 a7 : Value} {t : TypeId} (h : w.heap[k]? = some (.cells #[a0, a1, a2, a3, a4, a5, a6, a7] t (0, 0))) : w.cell? ⟨k, 0, none⟩ = some a0 ∧ w.cell? ⟨k, 1, none⟩ = some a1 ∧ w.cell? ⟨k, 2, none⟩ = some a2 ∧ w.cell? ⟨k, 3, none⟩ = some a3 ∧ w.cell? ⟨k, 4, none⟩ = some a4 ∧ w.cell? ⟨k, 5, none⟩ = some a5 ∧ w.cell? ⟨k, 6, none⟩ = some a6 ∧ w.cell? ⟨k, 7, none⟩ = some a7 := by
  refine ⟨?_, ?_, ?_, ?_, ?_, ?_, ?_, ?_⟩ <;> (rw [cell_of_row _ _ _ _ _ _ h]; rfl)
set_option maxRecDepth 100000 in
set_option maxHeartbeats 4000000 in
theorem putPoll_any (W0 w : World) (b : Nat) (l : List UInt8) (a f s c v : Int) (h : St W0 b l w) (hl : l.length ≤ 50000) (hx : PollFits ⟨a, f, s, c, v⟩) : Calls Tryz.prog 52 #[.pointer (some ⟨b, 0, none⟩), .agg #[.int .i64 a, .int .i64 f, .int .i64 s, .int .i64 c, .int .i64 v]] w (EIs W0 w b l (pollB ⟨a, f, s, c, v⟩)) := by
  obtain ⟨x0, x1, x2, x3, x4⟩ := hx
  have FF0 := Lib.hid x0
  have FF1 := Lib.hid x1
  have FF2 := Lib.hid x2
  have FF3 := Lib.hid x3
  have FF4 := Lib.hid x4
  have H0 : Hid (St W0 b l (w.alloc (.cells #[.int .i64 a, .int .i64 f, .int .i64 s, .int .i64 c, .int .i64 v] 68)) ∧ Keeps w (w.alloc (.cells #[.int .i64 a, .int .i64 f, .int .i64 s, .int .i64 c, .int .i64 v] 68)) ∧ (w.alloc (.cells #[.int .i64 a, .int .i64 f, .int .i64 s, .int .i64 c, .int .i64 v] 68)).heap[w.heap.size]? = some (.cells #[.int .i64 a, .int .i64 f, .int .i64 s, .int .i64 c, .int .i64 v] 68 (0, 0))) := Lib.hid ⟨h.on (below_new _ _), Keeps.of (below_new _ _), heap_alloc_new w _⟩
  clear x0 x1 x2 x3 x4 h
  go_enter Tryz.func52, Tryz.ntmps52
  go_wp2_with fail
  refine (st_u W0 _ b l 1 a H0.out.1 (by first | omega | (simp [leBytes_length]; omega)) FF0.out).mono ?_
  rintro e v0 ⟨rfl, hs, hk⟩
  have H1 : Hid (St W0 b (l ++ leBytes 1 a) v0 ∧ Keeps w v0 ∧ v0.heap[w.heap.size]? = some (.cells #[.int .i64 a, .int .i64 f, .int .i64 s, .int .i64 c, .int .i64 v] 68 (0, 0))) := Lib.hid ⟨hs, H0.out.2.1.trans hk, hk _ _ _ (by decide) (by decide) H0.out.2.2⟩
  clear hs hk H0
  obtain ⟨c00, c01, c02, c03, c04⟩ := cells5 H1.out.2.2
  go_wp2_with fail
  refine (st_u W0 v0 b (l ++ leBytes 1 a) 1 f H1.out.1 (by first | omega | (simp [leBytes_length]; omega)) FF1.out).mono ?_
  rintro e v1 ⟨rfl, hs, hk⟩
  have H2 : Hid (St W0 b ((l ++ leBytes 1 a) ++ leBytes 1 f) v1 ∧ Keeps w v1 ∧ v1.heap[w.heap.size]? = some (.cells #[.int .i64 a, .int .i64 f, .int .i64 s, .int .i64 c, .int .i64 v] 68 (0, 0))) := Lib.hid ⟨hs, H1.out.2.1.trans hk, hk _ _ _ (by decide) (by decide) H1.out.2.2⟩
  clear hs hk H1
  obtain ⟨c10, c11, c12, c13, c14⟩ := cells5 H2.out.2.2
  go_wp2_with fail
  refine (st_u W0 v1 b ((l ++ leBytes 1 a) ++ leBytes 1 f) 2 s H2.out.1 (by first | omega | (simp [leBytes_length]; omega)) FF2.out).mono ?_
  rintro e v2 ⟨rfl, hs, hk⟩
  have H3 : Hid (St W0 b (((l ++ leBytes 1 a) ++ leBytes 1 f) ++ leBytes 2 s) v2 ∧ Keeps w v2 ∧ v2.heap[w.heap.size]? = some (.cells #[.int .i64 a, .int .i64 f, .int .i64 s, .int .i64 c, .int .i64 v] 68 (0, 0))) := Lib.hid ⟨hs, H2.out.2.1.trans hk, hk _ _ _ (by decide) (by decide) H2.out.2.2⟩
  clear hs hk H2
  obtain ⟨c20, c21, c22, c23, c24⟩ := cells5 H3.out.2.2
  go_wp2_with fail
  refine (st_u W0 v2 b (((l ++ leBytes 1 a) ++ leBytes 1 f) ++ leBytes 2 s) 1 c H3.out.1 (by first | omega | (simp [leBytes_length]; omega)) FF3.out).mono ?_
  rintro e v3 ⟨rfl, hs, hk⟩
  have H4 : Hid (St W0 b ((((l ++ leBytes 1 a) ++ leBytes 1 f) ++ leBytes 2 s) ++ leBytes 1 c) v3 ∧ Keeps w v3 ∧ v3.heap[w.heap.size]? = some (.cells #[.int .i64 a, .int .i64 f, .int .i64 s, .int .i64 c, .int .i64 v] 68 (0, 0))) := Lib.hid ⟨hs, H3.out.2.1.trans hk, hk _ _ _ (by decide) (by decide) H3.out.2.2⟩
  clear hs hk H3
  obtain ⟨c30, c31, c32, c33, c34⟩ := cells5 H4.out.2.2
  go_wp2_with fail
  refine (st_u W0 v3 b ((((l ++ leBytes 1 a) ++ leBytes 1 f) ++ leBytes 2 s) ++ leBytes 1 c) 2 v H4.out.1 (by first | omega | (simp [leBytes_length]; omega)) FF4.out).mono ?_
  rintro e v4 ⟨rfl, hs, hk⟩
  have H5 : Hid (St W0 b (((((l ++ leBytes 1 a) ++ leBytes 1 f) ++ leBytes 2 s) ++ leBytes 1 c) ++ leBytes 2 v) v4 ∧ Keeps w v4 ∧ v4.heap[w.heap.size]? = some (.cells #[.int .i64 a, .int .i64 f, .int .i64 s, .int .i64 c, .int .i64 v] 68 (0, 0))) := Lib.hid ⟨hs, H4.out.2.1.trans hk, hk _ _ _ (by decide) (by decide) H4.out.2.2⟩
  clear hs hk H4
  go_wp2
  go_end0
  refine ⟨rfl, ?_, H5.out.2.1⟩
  simpa [pollB, List.append_assoc] using H5.out.1

set_option maxRecDepth 100000 in
set_option maxHeartbeats 4000000 in
theorem putCtl_any (W0 w : World) (b : Nat) (l : List UInt8) (k s r : Int) (h : St W0 b l w) (hl : l.length ≤ 50000) (hx : CtlFits ⟨k, s, r⟩) : Calls Tryz.prog 56 #[.pointer (some ⟨b, 0, none⟩), .agg #[.int .i64 k, .int .i64 s, .int .i64 r]] w (EIs W0 w b l (ctlB ⟨k, s, r⟩)) := by
  obtain ⟨x0, x1, x2⟩ := hx
  have FF0 := Lib.hid x0
  have FF1 := Lib.hid x1
  have FF2 := Lib.hid x2
  have H0 : Hid (St W0 b l (w.alloc (.cells #[.int .i64 k, .int .i64 s, .int .i64 r] 70)) ∧ Keeps w (w.alloc (.cells #[.int .i64 k, .int .i64 s, .int .i64 r] 70)) ∧ (w.alloc (.cells #[.int .i64 k, .int .i64 s, .int .i64 r] 70)).heap[w.heap.size]? = some (.cells #[.int .i64 k, .int .i64 s, .int .i64 r] 70 (0, 0))) := Lib.hid ⟨h.on (below_new _ _), Keeps.of (below_new _ _), heap_alloc_new w _⟩
  clear x0 x1 x2 h
  go_enter Tryz.func56, Tryz.ntmps56
  go_wp2_with fail
  refine (st_u W0 _ b l 1 k H0.out.1 (by first | omega | (simp [leBytes_length]; omega)) FF0.out).mono ?_
  rintro e v0 ⟨rfl, hs, hk⟩
  have H1 : Hid (St W0 b (l ++ leBytes 1 k) v0 ∧ Keeps w v0 ∧ v0.heap[w.heap.size]? = some (.cells #[.int .i64 k, .int .i64 s, .int .i64 r] 70 (0, 0))) := Lib.hid ⟨hs, H0.out.2.1.trans hk, hk _ _ _ (by decide) (by decide) H0.out.2.2⟩
  clear hs hk H0
  obtain ⟨c00, c01, c02⟩ := cells3 H1.out.2.2
  go_wp2_with fail
  refine (st_u W0 v0 b (l ++ leBytes 1 k) 1 s H1.out.1 (by first | omega | (simp [leBytes_length]; omega)) FF1.out).mono ?_
  rintro e v1 ⟨rfl, hs, hk⟩
  have H2 : Hid (St W0 b ((l ++ leBytes 1 k) ++ leBytes 1 s) v1 ∧ Keeps w v1 ∧ v1.heap[w.heap.size]? = some (.cells #[.int .i64 k, .int .i64 s, .int .i64 r] 70 (0, 0))) := Lib.hid ⟨hs, H1.out.2.1.trans hk, hk _ _ _ (by decide) (by decide) H1.out.2.2⟩
  clear hs hk H1
  obtain ⟨c10, c11, c12⟩ := cells3 H2.out.2.2
  go_wp2_with fail
  refine (st_u W0 v1 b ((l ++ leBytes 1 k) ++ leBytes 1 s) 2 r H2.out.1 (by first | omega | (simp [leBytes_length]; omega)) FF2.out).mono ?_
  rintro e v2 ⟨rfl, hs, hk⟩
  have H3 : Hid (St W0 b (((l ++ leBytes 1 k) ++ leBytes 1 s) ++ leBytes 2 r) v2 ∧ Keeps w v2 ∧ v2.heap[w.heap.size]? = some (.cells #[.int .i64 k, .int .i64 s, .int .i64 r] 70 (0, 0))) := Lib.hid ⟨hs, H2.out.2.1.trans hk, hk _ _ _ (by decide) (by decide) H2.out.2.2⟩
  clear hs hk H2
  go_wp2
  go_end0
  refine ⟨rfl, ?_, H3.out.2.1⟩
  simpa [ctlB, List.append_assoc] using H3.out.1

set_option maxRecDepth 100000 in
set_option maxHeartbeats 4000000 in
theorem putPt_any (W0 w : World) (b : Nat) (l : List UInt8) (k q p c d n m o : Int) (h : St W0 b l w) (hl : l.length ≤ 50000) (hx : PtFits ⟨k, q, p, c, d, n, m, o⟩) : Calls Tryz.prog 54 #[.pointer (some ⟨b, 0, none⟩), .agg #[.int .i64 k, .int .i64 q, .int .i64 p, .int .i64 c, .int .i64 d, .int .i64 n, .int .i64 m, .int .i64 o]] w (EIs W0 w b l (ptB ⟨k, q, p, c, d, n, m, o⟩)) := by
  obtain ⟨x0, x1, x2, x3, x4, x5, x6, x7⟩ := hx
  have FF0 := Lib.hid x0
  have FF1 := Lib.hid x1
  have FF2 := Lib.hid x2
  have FF3 := Lib.hid x3
  have FF4 := Lib.hid x4
  have FF5 := Lib.hid x5
  have FF6 := Lib.hid x6
  have FF7 := Lib.hid x7
  have H0 : Hid (St W0 b l (w.alloc (.cells #[.int .i64 k, .int .i64 q, .int .i64 p, .int .i64 c, .int .i64 d, .int .i64 n, .int .i64 m, .int .i64 o] 62)) ∧ Keeps w (w.alloc (.cells #[.int .i64 k, .int .i64 q, .int .i64 p, .int .i64 c, .int .i64 d, .int .i64 n, .int .i64 m, .int .i64 o] 62)) ∧ (w.alloc (.cells #[.int .i64 k, .int .i64 q, .int .i64 p, .int .i64 c, .int .i64 d, .int .i64 n, .int .i64 m, .int .i64 o] 62)).heap[w.heap.size]? = some (.cells #[.int .i64 k, .int .i64 q, .int .i64 p, .int .i64 c, .int .i64 d, .int .i64 n, .int .i64 m, .int .i64 o] 62 (0, 0))) := Lib.hid ⟨h.on (below_new _ _), Keeps.of (below_new _ _), heap_alloc_new w _⟩
  clear x0 x1 x2 x3 x4 x5 x6 x7 h
  go_enter Tryz.func54, Tryz.ntmps54
  go_wp2_with fail
  refine (st_u W0 _ b l 1 k H0.out.1 (by first | omega | (simp [leBytes_length]; omega)) FF0.out).mono ?_
  rintro e v0 ⟨rfl, hs, hk⟩
  have H1 : Hid (St W0 b (l ++ leBytes 1 k) v0 ∧ Keeps w v0 ∧ v0.heap[w.heap.size]? = some (.cells #[.int .i64 k, .int .i64 q, .int .i64 p, .int .i64 c, .int .i64 d, .int .i64 n, .int .i64 m, .int .i64 o] 62 (0, 0))) := Lib.hid ⟨hs, H0.out.2.1.trans hk, hk _ _ _ (by decide) (by decide) H0.out.2.2⟩
  clear hs hk H0
  obtain ⟨c00, c01, c02, c03, c04, c05, c06, c07⟩ := cells8 H1.out.2.2
  go_wp2_with fail
  refine (st_u W0 v0 b (l ++ leBytes 1 k) 1 q H1.out.1 (by first | omega | (simp [leBytes_length]; omega)) FF1.out).mono ?_
  rintro e v1 ⟨rfl, hs, hk⟩
  have H2 : Hid (St W0 b ((l ++ leBytes 1 k) ++ leBytes 1 q) v1 ∧ Keeps w v1 ∧ v1.heap[w.heap.size]? = some (.cells #[.int .i64 k, .int .i64 q, .int .i64 p, .int .i64 c, .int .i64 d, .int .i64 n, .int .i64 m, .int .i64 o] 62 (0, 0))) := Lib.hid ⟨hs, H1.out.2.1.trans hk, hk _ _ _ (by decide) (by decide) H1.out.2.2⟩
  clear hs hk H1
  obtain ⟨c10, c11, c12, c13, c14, c15, c16, c17⟩ := cells8 H2.out.2.2
  go_wp2_with fail
  refine (st_u W0 v1 b ((l ++ leBytes 1 k) ++ leBytes 1 q) 1 p H2.out.1 (by first | omega | (simp [leBytes_length]; omega)) FF2.out).mono ?_
  rintro e v2 ⟨rfl, hs, hk⟩
  have H3 : Hid (St W0 b (((l ++ leBytes 1 k) ++ leBytes 1 q) ++ leBytes 1 p) v2 ∧ Keeps w v2 ∧ v2.heap[w.heap.size]? = some (.cells #[.int .i64 k, .int .i64 q, .int .i64 p, .int .i64 c, .int .i64 d, .int .i64 n, .int .i64 m, .int .i64 o] 62 (0, 0))) := Lib.hid ⟨hs, H2.out.2.1.trans hk, hk _ _ _ (by decide) (by decide) H2.out.2.2⟩
  clear hs hk H2
  obtain ⟨c20, c21, c22, c23, c24, c25, c26, c27⟩ := cells8 H3.out.2.2
  go_wp2_with fail
  refine (st_u W0 v2 b (((l ++ leBytes 1 k) ++ leBytes 1 q) ++ leBytes 1 p) 1 c H3.out.1 (by first | omega | (simp [leBytes_length]; omega)) FF3.out).mono ?_
  rintro e v3 ⟨rfl, hs, hk⟩
  have H4 : Hid (St W0 b ((((l ++ leBytes 1 k) ++ leBytes 1 q) ++ leBytes 1 p) ++ leBytes 1 c) v3 ∧ Keeps w v3 ∧ v3.heap[w.heap.size]? = some (.cells #[.int .i64 k, .int .i64 q, .int .i64 p, .int .i64 c, .int .i64 d, .int .i64 n, .int .i64 m, .int .i64 o] 62 (0, 0))) := Lib.hid ⟨hs, H3.out.2.1.trans hk, hk _ _ _ (by decide) (by decide) H3.out.2.2⟩
  clear hs hk H3
  obtain ⟨c30, c31, c32, c33, c34, c35, c36, c37⟩ := cells8 H4.out.2.2
  go_wp2_with fail
  refine (st_u W0 v3 b ((((l ++ leBytes 1 k) ++ leBytes 1 q) ++ leBytes 1 p) ++ leBytes 1 c) 4 d H4.out.1 (by first | omega | (simp [leBytes_length]; omega)) FF4.out).mono ?_
  rintro e v4 ⟨rfl, hs, hk⟩
  have H5 : Hid (St W0 b (((((l ++ leBytes 1 k) ++ leBytes 1 q) ++ leBytes 1 p) ++ leBytes 1 c) ++ leBytes 4 d) v4 ∧ Keeps w v4 ∧ v4.heap[w.heap.size]? = some (.cells #[.int .i64 k, .int .i64 q, .int .i64 p, .int .i64 c, .int .i64 d, .int .i64 n, .int .i64 m, .int .i64 o] 62 (0, 0))) := Lib.hid ⟨hs, H4.out.2.1.trans hk, hk _ _ _ (by decide) (by decide) H4.out.2.2⟩
  clear hs hk H4
  obtain ⟨c40, c41, c42, c43, c44, c45, c46, c47⟩ := cells8 H5.out.2.2
  go_wp2_with fail
  refine (st_i W0 v4 b (((((l ++ leBytes 1 k) ++ leBytes 1 q) ++ leBytes 1 p) ++ leBytes 1 c) ++ leBytes 4 d) 2 n H5.out.1 (by first | omega | (simp [leBytes_length]; omega)) FF5.out).mono ?_
  rintro e v5 ⟨rfl, hs, hk⟩
  have H6 : Hid (St W0 b ((((((l ++ leBytes 1 k) ++ leBytes 1 q) ++ leBytes 1 p) ++ leBytes 1 c) ++ leBytes 4 d) ++ leBytes 2 n) v5 ∧ Keeps w v5 ∧ v5.heap[w.heap.size]? = some (.cells #[.int .i64 k, .int .i64 q, .int .i64 p, .int .i64 c, .int .i64 d, .int .i64 n, .int .i64 m, .int .i64 o] 62 (0, 0))) := Lib.hid ⟨hs, H5.out.2.1.trans hk, hk _ _ _ (by decide) (by decide) H5.out.2.2⟩
  clear hs hk H5
  obtain ⟨c50, c51, c52, c53, c54, c55, c56, c57⟩ := cells8 H6.out.2.2
  go_wp2_with fail
  refine (st_u W0 v5 b ((((((l ++ leBytes 1 k) ++ leBytes 1 q) ++ leBytes 1 p) ++ leBytes 1 c) ++ leBytes 4 d) ++ leBytes 2 n) 2 m H6.out.1 (by first | omega | (simp [leBytes_length]; omega)) FF6.out).mono ?_
  rintro e v6 ⟨rfl, hs, hk⟩
  have H7 : Hid (St W0 b (((((((l ++ leBytes 1 k) ++ leBytes 1 q) ++ leBytes 1 p) ++ leBytes 1 c) ++ leBytes 4 d) ++ leBytes 2 n) ++ leBytes 2 m) v6 ∧ Keeps w v6 ∧ v6.heap[w.heap.size]? = some (.cells #[.int .i64 k, .int .i64 q, .int .i64 p, .int .i64 c, .int .i64 d, .int .i64 n, .int .i64 m, .int .i64 o] 62 (0, 0))) := Lib.hid ⟨hs, H6.out.2.1.trans hk, hk _ _ _ (by decide) (by decide) H6.out.2.2⟩
  clear hs hk H6
  obtain ⟨c60, c61, c62, c63, c64, c65, c66, c67⟩ := cells8 H7.out.2.2
  go_wp2_with fail
  refine (st_i W0 v6 b (((((((l ++ leBytes 1 k) ++ leBytes 1 q) ++ leBytes 1 p) ++ leBytes 1 c) ++ leBytes 4 d) ++ leBytes 2 n) ++ leBytes 2 m) 4 o H7.out.1 (by first | omega | (simp [leBytes_length]; omega)) FF7.out).mono ?_
  rintro e v7 ⟨rfl, hs, hk⟩
  have H8 : Hid (St W0 b ((((((((l ++ leBytes 1 k) ++ leBytes 1 q) ++ leBytes 1 p) ++ leBytes 1 c) ++ leBytes 4 d) ++ leBytes 2 n) ++ leBytes 2 m) ++ leBytes 4 o) v7 ∧ Keeps w v7 ∧ v7.heap[w.heap.size]? = some (.cells #[.int .i64 k, .int .i64 q, .int .i64 p, .int .i64 c, .int .i64 d, .int .i64 n, .int .i64 m, .int .i64 o] 62 (0, 0))) := Lib.hid ⟨hs, H7.out.2.1.trans hk, hk _ _ _ (by decide) (by decide) H7.out.2.2⟩
  clear hs hk H7
  go_wp2
  go_end0
  refine ⟨rfl, ?_, H8.out.2.1⟩
  simpa [ptB, List.append_assoc] using H8.out.1

end Go.Proofs.YtpocjmlkhophoaaGreatDoor
