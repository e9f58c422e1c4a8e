/- wire.Writer in memory: NewWriter, U, I, B, Bytes and Out: what they answer, what they turn, for every row that was written and every number. -/
import Derived.Test.YtpocjmlkhophoaaGreatDoorApp
namespace Go.Proofs.YtpocjmlkhophoaaGreatDoor
open Go.RowKit Go.Extern.Stop Go.Stop Go.Extern

/-- A Writer: its own row of bytes. -/
structure WrAt (w : World) (B b : Nat) (v : Value) (l : List UInt8) : Prop where
  base : B ≤ b
  obj : w.heap[b]? = some (.cells #[v] 136 (0, 0))
  own : w.ownsRow B 5 1 v l.length (bcells l)
theorem WrAt.c0 {w : World} {B b : Nat} {v : Value} {l : List UInt8} (h : WrAt w B b v l) : w.cell? ⟨b, 0, none⟩ = some v := by rw [cell_of_row _ _ _ _ _ _ h.obj]; rfl
theorem WrAt.f0 {w : World} {B b : Nat} {v : Value} {l : List UInt8} (h : WrAt w B b v l) : w.frozen? ⟨b, 0, none⟩ = false := frozen_of_row _ _ _ _ _ h.obj
theorem WrAt.lt {w : World} {B b : Nat} {v : Value} {l : List UInt8} (h : WrAt w B b v l) : b < w.heap.size := lt_heap h.obj
theorem WrAt.off {w w' : World} {S : Nat → Prop} {B b : Nat} {v : Value} {l : List UInt8} (h : WrAt w B b v l) (hk : Off S w w') (hr : ¬ S b) (hv : ∀ k, v.ownBlock = some k → ¬ S k) : WrAt w' B b v l :=
  ⟨h.base, (hk.block b h.lt hr).trans h.obj, ownsRow_off h.own hk hv⟩
theorem WrAt.on {w w' : World} {B b : Nat} {v : Value} {l : List UInt8} (h : WrAt w B b v l) (hk : Below w.heap.size w w') : WrAt w' B b v l := h.off (Off.of_below (fun _ => False) hk) (fun f => f) (fun _ _ f => f)
theorem WrAt.bytes {w : World} {B b : Nat} {v : Value} {l : List UInt8} (h : WrAt w B b v l) : ∃ ao cap, v = .slice ao l.length cap := by
  obtain ⟨ao, cap, hv, _⟩ := bytesAt_own h.own
  exact ⟨ao, cap, hv⟩

/-- The blocks that writing may turn. -/
def Wrote (b : Nat) (v : Value) (k : Nat) : Prop := k = b ∨ v.ownBlock = some k
/-- What writing the bytes m leaves. -/
def PutIs (w : World) (B b : Nat) (v : Value) (l m : List UInt8) (w' : World) : Prop :=
  ∃ v', WrAt w' B b v' (l ++ m) ∧ Off (Wrote b v) w w' ∧ ∀ k, v'.ownBlock = some k → v.ownBlock = some k ∨ w.heap.size ≤ k

theorem WrAt.put {w w1 : World} {B b : Nat} {v v' : Value} {l m : List UInt8} (h : WrAt w B b v l) (ha : AppIs w B v l m (.returned v') w1) : PutIs w B b v l m (w1.setCell ⟨b, 0, none⟩ v') := by
  obtain ⟨v1, e, ho, hk, hb⟩ := ha
  simp only [Ending.returned.injEq] at e
  subst e
  have hbw : w1.heap[b]? = some (.cells #[v] 136 (0, 0)) := (hk.block b h.lt (fun e => row_no h.own h.obj (by decide) e)).trans h.obj
  refine ⟨v', ⟨h.base, by rw [heap_set _ _ _ _ _ _ _ hbw]; rfl, ?_⟩, ?_, hb⟩
  · exact ownsRow_off ho (Off.set (fun k => k = b) w1 ⟨b, 0, none⟩ _ rfl) (fun k e s => row_no ho hbw (by decide) (by rw [e, s]))
  · exact (hk.mono (fun k _ s => .inr s)).trans (Off.set _ _ ⟨b, 0, none⟩ _ (.inl rfl))

theorem new_writer (w : World) : Calls Tryz.prog 46 #[] w fun e w' => e = .returned (.pointer (some ⟨w.heap.size, 0, none⟩)) ∧ w' = w.alloc (.cells #[.slice none 0 0] 136) := by
  go_enter Tryz.func46, Tryz.ntmps46
  go_wp2
  go_ret
  exact ⟨rfl, rfl⟩
theorem wrAt_new (w : World) : WrAt (w.alloc (.cells #[.slice none 0 0] 136)) w.heap.size w.heap.size (.slice none 0 0) [] := ⟨Nat.le_refl _, heap_alloc_new w _, World.ownsRow_nil _ _ _ _⟩

/-- Writer.fault. -/
theorem wfault_any (B b : Nat) (v : Value) (l : List UInt8) (c : Int) (w : World) (h : WrAt w B b v l) : Calls Tryz.prog 96 #[.pointer (some ⟨b, 0, none⟩), .int .i64 c] w fun e w' => ∃ x, e = .returned x ∧ WireErr w' l.length c x ∧ Below w.heap.size w w' := by
  have c0 := h.c0
  obtain ⟨ao, cap, rfl⟩ := h.bytes
  clear h
  go_enter Tryz.func96, Tryz.ntmps96
  go_wp2_with fail
  refine (in_some _ _ _ _ _).mono ?_
  rintro e w1 ⟨rfl, rfl⟩
  go_wp2
  go_ret
  exact ⟨_, rfl, wireErr_new w l.length c, (Below.refl _ _).alloc (Nat.le_refl _) _⟩

/-- A number that n bytes hold without a sign. -/
def UFits (n x : Int) : Prop := (1 ≤ n ∧ n ≤ 6) ∧ 0 ≤ x ∧ x < ((256 ^ n.toNat : Nat) : Int)
/-- A number that n bytes hold with a sign. -/
def SFits (n x : Int) : Prop := (1 ≤ n ∧ n ≤ 6) ∧ -((256 ^ n.toNat : Nat) : Int) ≤ 2 * x ∧ 2 * x < ((256 ^ n.toNat : Nat) : Int)

def FaultIs (w : World) (p : Nat) (c : Int) (e : Ending) (w' : World) : Prop := ∃ x, e = .returned x ∧ WireErr w' p c x ∧ Below w.heap.size w w'

set_option maxRecDepth 100000 in
set_option maxHeartbeats 1000000 in
theorem wu_bad (B b : Nat) (v : Value) (l : List UInt8) (n x : Int) (w : World) (h : WrAt w B b v l) (hx : ¬ UFits n x) :
    Calls Tryz.prog 57 #[.pointer (some ⟨b, 0, none⟩), .int .i64 n, .int .i64 x] w (FaultIs w l.length 1) := by
  have H := Lib.hid h
  clear h
  by_cases hn : 1 ≤ n ∧ n ≤ 6
  · have hd : decide (1 ≤ n ∧ n ≤ 6) = true := by simpa using hn
    obtain ⟨m, rfl⟩ : ∃ m : Nat, n = (m : Int) := ⟨n.toNat, by omega⟩
    obtain ⟨s, hs, hs1, hs2⟩ := span_facts m (by omega) (by omega)
    have hsp := Lib.hid (span_any m (by omega) (by omega))
    have hx2 : x < 0 ∨ ((2 * s : Nat) : Int) ≤ x := by
      unfold UFits at hx
      rw [Int.toNat_natCast, hs] at hx
      omega
    rw [hs] at hsp
    clear hn hx hs
    generalize h2s : ((2 * s : Nat) : Int) = S at *
    go_enter Tryz.func57, Tryz.ntmps57
    go_wp2_with fail
    refine (fits_any m w).mono ?_
    rintro e w1 ⟨rfl, rfl⟩
    rw [hd]
    by_cases hx0 : x < 0
    · go_wp2_with fail
      refine (wfault_any B b v l 1 w H.out).mono ?_
      rintro e w2 ⟨y, rfl, hy, hb⟩
      obtain ⟨_, _, rfl, _⟩ := id hy
      have HX := Lib.hid hy
      have HB := Lib.hid hb
      clear hb hy
      go_wp2
      go_ret
      exact ⟨_, rfl, HX.out, HB.out⟩
    · have hx3 : S ≤ x := by omega
      go_wp2_with fail
      refine (hsp.out w).mono ?_
      rintro e w1 ⟨rfl, rfl⟩
      go_wp2_with fail
      refine (wfault_any B b v l 1 w H.out).mono ?_
      rintro e w2 ⟨y, rfl, hy, hb⟩
      obtain ⟨_, _, rfl, _⟩ := id hy
      have HX := Lib.hid hy
      have HB := Lib.hid hb
      clear hb hy
      go_wp2
      go_ret
      exact ⟨_, rfl, HX.out, HB.out⟩
  · have hd : decide (1 ≤ n ∧ n ≤ 6) = false := by simpa using hn
    clear hn hx
    go_enter Tryz.func57, Tryz.ntmps57
    go_wp2_with fail
    refine (fits_any n w).mono ?_
    rintro e w1 ⟨rfl, rfl⟩
    rw [hd]
    go_wp2_with fail
    refine (wfault_any B b v l 1 w H.out).mono ?_
    rintro e w2 ⟨y, rfl, hy, hb⟩
    obtain ⟨_, _, rfl, _⟩ := id hy
    have HX := Lib.hid hy
    have HB := Lib.hid hb
    clear hb hy
    go_wp2
    go_ret
    exact ⟨_, rfl, HX.out, HB.out⟩

def WroteIs (w : World) (B b : Nat) (v : Value) (l m : List UInt8) (e : Ending) (w' : World) : Prop := e = .returned .nilIface ∧ PutIs w B b v l m w'

set_option maxRecDepth 100000 in
set_option maxHeartbeats 1000000 in
theorem wu_ok (B b : Nat) (v : Value) (l : List UInt8) (m : Nat) (x : Int) (w : World) (h : WrAt w B b v l) (hl : l.length ≤ 140737488355000) (hx : UFits m x) :
    Calls Tryz.prog 57 #[.pointer (some ⟨b, 0, none⟩), .int .i64 (m : Int), .int .i64 x] w (WroteIs w B b v l (leBytes m x)) := by
  have H := Lib.hid h
  have HL := Lib.hid hl
  obtain ⟨ao, cap, rfl⟩ := h.bytes
  obtain ⟨⟨hn1, hn2⟩, hx0, hx1⟩ := hx
  have hm1 : 1 ≤ m := by omega
  have hm2 : m ≤ 6 := by omega
  have hd : decide (1 ≤ (m : Int) ∧ (m : Int) ≤ 6) = true := by simp; omega
  obtain ⟨s, hs, hs1, hs2⟩ := span_facts m hm1 hm2
  have hsp := Lib.hid (span_any m hm1 hm2)
  rw [Int.toNat_natCast, hs] at hx1
  rw [hs] at hsp
  have HM := Lib.hid (And.intro hm1 hm2)
  have c0 := h.c0
  clear h hl hn1 hn2 hm1 hm2 hs
  generalize h2s : ((2 * s : Nat) : Int) = S at *
  go_enter Tryz.func57, Tryz.ntmps57
  go_wp2_with fail
  refine (fits_any m w).mono ?_
  rintro e w1 ⟨rfl, rfl⟩
  rw [hd]
  go_wp2_with fail
  refine (hsp.out w).mono ?_
  rintro e w1 ⟨rfl, rfl⟩
  go_wp2_with fail
  refine (append_little m HM.out.1 HM.out.2 _ l x B w H.out.own (Nat.le_trans H.out.base (Nat.le_of_lt H.out.lt)) HL.out).mono ?_
  rintro e w1 ha
  obtain ⟨v', rfl, ho, hk, _⟩ := id ha
  obtain ⟨av', cv', hv', _⟩ := bytesAt_own ho
  have HA := Lib.hid ha
  have hbw : w1.heap[b]? = some (.cells #[.slice ao l.length cap] 136 (0, 0)) := (hk.block b H.out.lt (fun e => row_no H.out.own H.out.obj (by decide) e)).trans H.out.obj
  have c1 : w1.cell? ⟨b, 0, none⟩ = some (.slice ao l.length cap) := by rw [cell_of_row _ _ _ _ _ _ hbw]; rfl
  have f1 : w1.frozen? ⟨b, 0, none⟩ = false := frozen_of_row _ _ _ _ _ hbw
  generalize hll : (l ++ leBytes m x).length = ll at hv'
  subst hv'
  clear ha ho hk hbw hll
  go_wp2
  go_ret
  exact ⟨rfl, H.out.put HA.out⟩

theorem half (s : Nat) : ((2 * s : Nat) : Int).tdiv 2 = (s : Int) := by
  rw [Int.tdiv_eq_ediv_of_nonneg (by omega)]
  omega

set_option maxRecDepth 100000 in
set_option maxHeartbeats 1000000 in
theorem wi_bad (B b : Nat) (v : Value) (l : List UInt8) (n x : Int) (w : World) (h : WrAt w B b v l) (hx : ¬ SFits n x) :
    Calls Tryz.prog 93 #[.pointer (some ⟨b, 0, none⟩), .int .i64 n, .int .i64 x] w (FaultIs w l.length 1) := by
  have H := Lib.hid h
  clear h
  by_cases hn : 1 ≤ n ∧ n ≤ 6
  · have hd : decide (1 ≤ n ∧ n ≤ 6) = true := by simpa using hn
    obtain ⟨m, rfl⟩ : ∃ m : Nat, n = (m : Int) := ⟨n.toNat, by omega⟩
    obtain ⟨s, hs, hs1, hs2⟩ := span_facts m (by omega) (by omega)
    have hsp := Lib.hid (span_any m (by omega) (by omega))
    have hx2 : x < -(s : Int) ∨ (s : Int) ≤ x := by
      unfold SFits at hx
      rw [Int.toNat_natCast, hs] at hx
      omega
    rw [hs] at hsp
    have d0 := half s
    clear hn hx hs
    generalize h2s : ((2 * s : Nat) : Int) = S at *
    go_enter Tryz.func93, Tryz.ntmps93
    go_wp2_with fail
    refine (fits_any m w).mono ?_
    rintro e w1 ⟨rfl, rfl⟩
    rw [hd]
    go_wp2_with fail
    refine (hsp.out w).mono ?_
    rintro e w1 ⟨rfl, rfl⟩
    by_cases hx0 : x < -(s : Int)
    · go_wp2_with fail
      refine (wfault_any B b v l 1 w H.out).mono ?_
      rintro e w2 ⟨y, rfl, hy, hb⟩
      obtain ⟨_, _, rfl, _⟩ := id hy
      have HX := Lib.hid hy
      have HB := Lib.hid hb
      clear hb hy
      go_wp2
      go_ret
      exact ⟨_, rfl, HX.out, HB.out⟩
    · have hx3 : (s : Int) ≤ x := by omega
      go_wp2_with fail
      refine (hsp.out w).mono ?_
      rintro e w1 ⟨rfl, rfl⟩
      go_wp2_with fail
      refine (wfault_any B b v l 1 w H.out).mono ?_
      rintro e w2 ⟨y, rfl, hy, hb⟩
      obtain ⟨_, _, rfl, _⟩ := id hy
      have HX := Lib.hid hy
      have HB := Lib.hid hb
      clear hb hy
      go_wp2
      go_ret
      exact ⟨_, rfl, HX.out, HB.out⟩
  · have hd : decide (1 ≤ n ∧ n ≤ 6) = false := by simpa using hn
    clear hn hx
    go_enter Tryz.func93, Tryz.ntmps93
    go_wp2_with fail
    refine (fits_any n w).mono ?_
    rintro e w1 ⟨rfl, rfl⟩
    rw [hd]
    go_wp2_with fail
    refine (wfault_any B b v l 1 w H.out).mono ?_
    rintro e w2 ⟨y, rfl, hy, hb⟩
    obtain ⟨_, _, rfl, _⟩ := id hy
    have HX := Lib.hid hy
    have HB := Lib.hid hb
    clear hb hy
    go_wp2
    go_ret
    exact ⟨_, rfl, HX.out, HB.out⟩

set_option maxRecDepth 100000 in
set_option maxHeartbeats 1000000 in
theorem wi_ok (B b : Nat) (v : Value) (l : List UInt8) (m : Nat) (x : Int) (w : World) (h : WrAt w B b v l) (hl : l.length ≤ 140737488355000) (hx : SFits m x) :
    Calls Tryz.prog 93 #[.pointer (some ⟨b, 0, none⟩), .int .i64 (m : Int), .int .i64 x] w (WroteIs w B b v l (leBytes m x)) := by
  have H := Lib.hid h
  have HL := Lib.hid hl
  obtain ⟨ao, cap, rfl⟩ := h.bytes
  obtain ⟨⟨hn1, hn2⟩, hx0, hx1⟩ := hx
  have hm1 : 1 ≤ m := by omega
  have hm2 : m ≤ 6 := by omega
  have hd : decide (1 ≤ (m : Int) ∧ (m : Int) ≤ 6) = true := by simp; omega
  obtain ⟨s, hs, hs1, hs2⟩ := span_facts m hm1 hm2
  have hsp := Lib.hid (span_any m hm1 hm2)
  rw [Int.toNat_natCast, hs] at hx0 hx1
  have hy0 : -(s : Int) ≤ x := by omega
  have hy1 : x < (s : Int) := by omega
  rw [hs] at hsp
  have d0 := half s
  have HM := Lib.hid (And.intro hm1 hm2)
  have c0 := h.c0
  clear h hl hn1 hn2 hm1 hm2 hs hx0 hx1
  generalize h2s : ((2 * s : Nat) : Int) = S at *
  go_enter Tryz.func93, Tryz.ntmps93
  go_wp2_with fail
  refine (fits_any m w).mono ?_
  rintro e w1 ⟨rfl, rfl⟩
  rw [hd]
  go_wp2_with fail
  refine (hsp.out w).mono ?_
  rintro e w1 ⟨rfl, rfl⟩
  go_wp2_with fail
  refine (hsp.out w).mono ?_
  rintro e w1 ⟨rfl, rfl⟩
  go_wp2_with fail
  refine (append_little m HM.out.1 HM.out.2 _ l x B w H.out.own (Nat.le_trans H.out.base (Nat.le_of_lt H.out.lt)) HL.out).mono ?_
  rintro e w1 ha
  obtain ⟨v', rfl, ho, hk, _⟩ := id ha
  obtain ⟨av', cv', hv', _⟩ := bytesAt_own ho
  have HA := Lib.hid ha
  have hbw : w1.heap[b]? = some (.cells #[.slice ao l.length cap] 136 (0, 0)) := (hk.block b H.out.lt (fun e => row_no H.out.own H.out.obj (by decide) e)).trans H.out.obj
  have c1 : w1.cell? ⟨b, 0, none⟩ = some (.slice ao l.length cap) := by rw [cell_of_row _ _ _ _ _ _ hbw]; rfl
  have f1 : w1.frozen? ⟨b, 0, none⟩ = false := frozen_of_row _ _ _ _ _ hbw
  generalize hll : (l ++ leBytes m x).length = ll at hv'
  subst hv'
  clear ha ho hk hbw hll
  go_wp2
  go_ret
  exact ⟨rfl, H.out.put HA.out⟩

/-- append of nothing. -/
theorem append_none (W : World) (ao : Option Addr) (n cap c : Nat) (hc : n ≤ cap) : (Builtin.append_ #[37, 37] 37 #[.slice ao n cap, .slice none 0 c]).run Tryz.prog W = .ok (.slice ao n cap) W := by
  obtain ⟨i0, hi0, _, _, _⟩ := info_parts info5
  have : ¬ cap < n := by omega
  simp [Builtin.append_, run_underlying Tryz.underlying37, sizeOf, typeInfo, hi0, Builtin.lenOf, Builtin.firstCells, storeCells, hc]
  cases ao <;> rfl

/-- Writer.Out: a copy. -/
theorem out_any (B b : Nat) (v : Value) (l : List UInt8) (w : World) (h : WrAt w B b v l) (hl : l.length ≤ 140737488355328) : Calls Tryz.prog 59 #[.pointer (some ⟨b, 0, none⟩)] w (CopyIs w l) := by
  have H := Lib.hid h
  have HL := Lib.hid hl
  have c0 := h.c0
  obtain ⟨ao, cap, rfl⟩ := h.bytes
  clear h hl
  go_enter Tryz.func59, Tryz.ntmps59
  go_wp2_with fail
  refine (clone_any _ l w (bytesAt_own H.out.own) HL.out).mono ?_
  rintro e w1 ⟨v, rfl, hown, hb⟩
  obtain ⟨av, cv, rfl, _⟩ := bytesAt_own hown
  have HO := Lib.hid hown
  have HB := Lib.hid hb
  clear hown hb
  go_wp2
  go_ret
  exact ⟨_, rfl, HO.out, HB.out⟩
end Go.Proofs.YtpocjmlkhophoaaGreatDoor
