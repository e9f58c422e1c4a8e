/- pdu.formatOf, isFunction, isWithin, areValues, May: what each answers, for every argument; memory that was there stands. -/
import Derived.Test.YtngfaailbkadfaaDoorInts
import Derived.Test.YtngfaailbkadfaaDoorWFirst
namespace Go.Proofs.YtngfaailbkadfaaDoor
open Go.RowKit Go.Extern.Stop Go.Stop Go.Extern

theorem below_new (w : World) (o : Obj) : Below w.heap.size w (w.alloc o) := (Below.refl _ _).alloc (Nat.le_refl _) _
theorem below_set {B : Nat} {a w : World} (h : Below B a w) (hB : B ≤ a.heap.size) (p : Addr) (u : Value) (hp : B ≤ p.block) : Below B a (w.setCell p u) := by
  have h2 := Off.set (fun k => B ≤ k) w p u hp
  exact ⟨h2.os.trans h.os, h2.tape.trans h.tape, h2.output.trans h.output, Nat.le_trans h.size h2.size, fun k hk => (h2.block k (Nat.lt_of_lt_of_le hk (Nat.le_trans hB h.size)) (by omega)).trans (h.block k hk)⟩
/-- The greatest Count of a function, the greatest value, and whether it reads. -/
def fMost (f : Int) : Int := if f = 1 ∨ f = 2 then 2000 else if f = 3 ∨ f = 4 then 125 else if f = 5 ∨ f = 6 then 1 else if f = 15 then 1968 else if f = 16 then 123 else 0
def fTop (f : Int) : Int := if f = 1 ∨ f = 2 ∨ f = 5 ∨ f = 15 then 1 else if f = 3 ∨ f = 4 ∨ f = 6 ∨ f = 16 then 65535 else 0
def fReads (f : Int) : Bool := decide (f = 1 ∨ f = 2 ∨ f = 3 ∨ f = 4)
def fmtV (f : Int) : Value := .agg #[.int .i64 (fMost f), .int .i64 (fTop f), .bool (fReads f)]

set_option maxHeartbeats 4000000 in
theorem format_any (f : Int) (w : World) : Calls Tryd.prog 35 #[.int .i64 f] w fun e w' => e = .returned (fmtV f) ∧ Below w.heap.size w w' := by
  by_cases h1 : f = 1
  · subst h1
    go_enter Tryd.func35, Tryd.ntmps35
    go_wp2
    refine bodyPost_ret (v := fmtV 1) ?_ rfl ⟨rfl, ?_⟩
    · simp [results, Tryd.results35, go_sem, fmtV, fMost, fTop, fReads]
    · first | exact below_new _ _ | exact below_set (below_new _ _) (Nat.le_refl _) _ _ (Nat.le_refl _)
  by_cases h2 : f = 2
  · subst h2
    go_enter Tryd.func35, Tryd.ntmps35
    go_wp2
    refine bodyPost_ret (v := fmtV 2) ?_ rfl ⟨rfl, ?_⟩
    · simp [results, Tryd.results35, go_sem, fmtV, fMost, fTop, fReads]
    · first | exact below_new _ _ | exact below_set (below_new _ _) (Nat.le_refl _) _ _ (Nat.le_refl _)
  by_cases h3 : f = 3
  · subst h3
    go_enter Tryd.func35, Tryd.ntmps35
    go_wp2
    refine bodyPost_ret (v := fmtV 3) ?_ rfl ⟨rfl, ?_⟩
    · simp [results, Tryd.results35, go_sem, fmtV, fMost, fTop, fReads]
    · first | exact below_new _ _ | exact below_set (below_new _ _) (Nat.le_refl _) _ _ (Nat.le_refl _)
  by_cases h4 : f = 4
  · subst h4
    go_enter Tryd.func35, Tryd.ntmps35
    go_wp2
    refine bodyPost_ret (v := fmtV 4) ?_ rfl ⟨rfl, ?_⟩
    · simp [results, Tryd.results35, go_sem, fmtV, fMost, fTop, fReads]
    · first | exact below_new _ _ | exact below_set (below_new _ _) (Nat.le_refl _) _ _ (Nat.le_refl _)
  by_cases h5 : f = 5
  · subst h5
    go_enter Tryd.func35, Tryd.ntmps35
    go_wp2
    refine bodyPost_ret (v := fmtV 5) ?_ rfl ⟨rfl, ?_⟩
    · simp [results, Tryd.results35, go_sem, fmtV, fMost, fTop, fReads]
    · first | exact below_new _ _ | exact below_set (below_new _ _) (Nat.le_refl _) _ _ (Nat.le_refl _)
  by_cases h6 : f = 6
  · subst h6
    go_enter Tryd.func35, Tryd.ntmps35
    go_wp2
    refine bodyPost_ret (v := fmtV 6) ?_ rfl ⟨rfl, ?_⟩
    · simp [results, Tryd.results35, go_sem, fmtV, fMost, fTop, fReads]
    · first | exact below_new _ _ | exact below_set (below_new _ _) (Nat.le_refl _) _ _ (Nat.le_refl _)
  by_cases h15 : f = 15
  · subst h15
    go_enter Tryd.func35, Tryd.ntmps35
    go_wp2
    refine bodyPost_ret (v := fmtV 15) ?_ rfl ⟨rfl, ?_⟩
    · simp [results, Tryd.results35, go_sem, fmtV, fMost, fTop, fReads]
    · first | exact below_new _ _ | exact below_set (below_new _ _) (Nat.le_refl _) _ _ (Nat.le_refl _)
  by_cases h16 : f = 16
  · subst h16
    go_enter Tryd.func35, Tryd.ntmps35
    go_wp2
    refine bodyPost_ret (v := fmtV 16) ?_ rfl ⟨rfl, ?_⟩
    · simp [results, Tryd.results35, go_sem, fmtV, fMost, fTop, fReads]
    · first | exact below_new _ _ | exact below_set (below_new _ _) (Nat.le_refl _) _ _ (Nat.le_refl _)
  have HV : Hid (fmtV f = .agg #[.int .i64 0, .int .i64 0, .bool false]) := Lib.hid (by simp [fmtV, fMost, fTop, fReads, h1, h2, h3, h4, h5, h6, h15, h16])
  have n1 : (f == 1) = false := by simpa using h1
  have n2 : (f == 2) = false := by simpa using h2
  have n3 : (f == 3) = false := by simpa using h3
  have n4 : (f == 4) = false := by simpa using h4
  have n5 : (f == 5) = false := by simpa using h5
  have n6 : (f == 6) = false := by simpa using h6
  have n15 : (f == 15) = false := by simpa using h15
  have n16 : (f == 16) = false := by simpa using h16
  clear h1 h2 h3 h4 h5 h6 h15 h16
  go_enter Tryd.func35, Tryd.ntmps35
  go_wp2
  refine bodyPost_ret (v := fmtV f) ?_ rfl ⟨rfl, ?_⟩
  · rw [HV.out]
    simp [results, Tryd.results35, go_sem]
  · first | exact below_new _ _ | exact below_set (below_new _ _) (Nat.le_refl _) _ _ (Nat.le_refl _)

theorem fld0 (a b c : Value) (w : World) : (Instr.field 75 (.agg #[a, b, c]) 0).run Tryd.prog w = .ok a w := by kernel_rfl
theorem fld1 (a b c : Value) (w : World) : (Instr.field 75 (.agg #[a, b, c]) 1).run Tryd.prog w = .ok b w := by kernel_rfl
theorem fld2 (a b c : Value) (w : World) : (Instr.field 75 (.agg #[a, b, c]) 2).run Tryd.prog w = .ok c w := by kernel_rfl
/-- Is f one of the eight functions? -/
def isFn (f : Int) : Bool := decide (0 < fMost f)
set_option maxRecDepth 100000 in
set_option maxHeartbeats 1000000 in
theorem isfn_any (f : Int) (w : World) : Calls Tryd.prog 23 #[.int .i64 f] w fun e w' => e = .returned (.bool (isFn f)) ∧ Below w.heap.size w w' := by
  go_enter Tryd.func23, Tryd.ntmps23
  go_wp2_with fail
  refine (format_any f w).mono ?_
  rintro e w1 ⟨rfl, hb⟩
  have HB := Lib.hid hb
  clear hb
  have HI : Hid (isFn f = decide (0 < fMost f)) := Lib.hid rfl
  unfold fmtV
  generalize fMost f = m at HI ⊢
  generalize fTop f = t
  generalize fReads f = r
  go_wp2
  rw [fld0]
  go_wp2
  go_ret
  rw [HI.out]
  exact ⟨rfl, HB.out⟩

def within (n a b : Int) : Bool := decide (a ≤ n) && decide (n ≤ b)
set_option maxHeartbeats 400000 in
theorem within_any (n a b : Int) (w : World) : Calls Tryd.prog 36 #[.int .i64 n, .int .i64 a, .int .i64 b] w fun e w' => e = .returned (.bool (within n a b)) ∧ w = w' := by
  by_cases h1 : a ≤ n
  · by_cases h2 : n ≤ b
    · have E := Lib.hid (show within n a b = true by simp [within, h1, h2])
      go_enter Tryd.func36, Tryd.ntmps36
      go_wp2
      go_ret
      rw [E.out]
      exact ⟨rfl, rfl⟩
    · have E := Lib.hid (show within n a b = false by simp [within, h2])
      go_enter Tryd.func36, Tryd.ntmps36
      go_wp2
      go_ret
      rw [E.out]
      exact ⟨rfl, rfl⟩
  · have E := Lib.hid (show within n a b = false by simp [within, h1])
    go_enter Tryd.func36, Tryd.ntmps36
    go_wp2
    go_ret
    rw [E.out]
    exact ⟨rfl, rfl⟩

/-- Are the values as many as wanted, each from 0 to top? -/
def areV (l : List Int) (wanted top : Int) : Bool := decide ((l.length : Int) = wanted) && l.all (fun v => within v 0 top)
set_option maxRecDepth 100000 in
set_option maxHeartbeats 4000000 in
theorem values_any (v : Value) (l : List Int) (wanted top : Int) (w : World) (hv : IntsAt w v l) (hl : l.length ≤ 1000000) : Calls Tryd.prog 37 #[v, .int .i64 wanted, .int .i64 top] w fun e w' => e = .returned (.bool (areV l wanted top)) ∧ Below w.heap.size w w' := by
  have HV := Lib.hid hv
  have HL := Lib.hid hl
  obtain ⟨ao, cap, rfl, _⟩ := hv
  clear hl
  by_cases hlen : (l.length : Int) = wanted
  · have HQ := Lib.hid hlen
    subst hlen
    go_enter Tryd.func37, Tryd.ntmps37
    go_wp2
    go_loopg [15] l.length (fun k s15 wr => ∃ i : Nat, i ≤ l.length ∧ k = l.length - i ∧ s15 = .int .i64 i ∧ Hid (wr = w ∧ (l.take i).all (fun v => within v 0 top) = true))
    case atStart => exact ⟨0, Nat.zero_le _, rfl, rfl, Lib.hid ⟨rfl, rfl⟩⟩
    case round =>
      obtain ⟨k, hk, rfl, rfl, HK0⟩ := hrel
      obtain ⟨hwr, HK1⟩ := HK0.out
      subst hwr
      have HK := Lib.hid HK1
      clear HK1 HK0
      by_cases hlt : k < l.length
      · obtain ⟨ao', cap', he, hc⟩ := HV.out
        obtain ⟨b, off, hb, hcell⟩ := hc k hlt
        simp only [Value.slice.injEq] at he
        obtain ⟨rfl, _, rfl⟩ := he
        subst hb
        clear hc
        have HT : Hid (l.take (k + 1) = l.take k ++ [l[k]]) := Lib.hid (List.take_append_getElem hlt).symm
        have HM : Hid (l[k] ∈ l) := Lib.hid (List.getElem_mem hlt)
        generalize l[k] = y at *
        rcases Bool.eq_false_or_eq_true (within y 0 top) with h0 | h0
        · have HN : Hid ((l.take (k + 1)).all (fun v => within v 0 top) = true) := Lib.hid (by rw [HT.out, List.all_append, HK.out]; simp [h0])
          go_wp2_with fail
          refine (within_any y 0 top _).mono ?_
          rintro e w1 ⟨rfl, rfl⟩
          rw [h0]
          go_wp2
          go_roundg (l.length - (k + 1))
          case measure => omega
          case rel => exact ⟨k + 1, by omega, rfl, next_int k (by have := HL.out; omega), Lib.hid ⟨rfl, HN.out⟩⟩
        · have HE : Hid (areV l (l.length : Int) top = false) := Lib.hid (by
            rw [areV, ← Bool.not_eq_true]
            intro ht
            simp only [Bool.and_eq_true, List.all_eq_true] at ht
            have := ht.2 y HM.out
            rw [h0] at this
            cases this)
          go_wp2_with fail
          refine (within_any y 0 top _).mono ?_
          rintro e w1 ⟨rfl, rfl⟩
          rw [h0]
          go_wp2
          go_ret
          rw [HE.out]
          exact ⟨rfl, Below.refl _ _⟩
      · have HE : Hid (areV l (l.length : Int) top = true) := Lib.hid (by
          have h2 := HK.out
          rw [List.take_of_length_le (by omega)] at h2
          rw [areV, h2]
          simp)
        go_wp2
        go_ret
        rw [HE.out]
        exact ⟨rfl, Below.refl _ _⟩
  · have HQ := Lib.hid (show areV l wanted top = false by simp [areV, hlen])
    have hq : ((l.length : Int) != wanted) = true := by simpa using hlen
    clear hlen
    go_enter Tryd.func37, Tryd.ntmps37
    go_wp2
    go_ret
    rw [HQ.out]
    exact ⟨rfl, Below.refl _ _⟩
end Go.Proofs.YtngfaailbkadfaaDoor
