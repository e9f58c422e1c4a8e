/- The places of a kind in a list: as plain values, and what is true of them. -/
import Derived.Test.YtpocjmlkhophoaaGreatDoorGrow
namespace Go.Proofs.YtpocjmlkhophoaaGreatDoor
open Go.RowKit Go.Extern.Stop Go.Stop Go.Extern

/-- The places below n at which f holds. -/
def plc (f : Nat → Bool) : Nat → List Int
  | 0 => []
  | n + 1 => if f n then plc f n ++ [(n : Int)] else plc f n
theorem plc_succ (f : Nat → Bool) (n : Nat) : plc f (n + 1) = if f n then plc f n ++ [(n : Int)] else plc f n := rfl
theorem plc_le (f : Nat → Bool) : ∀ n, (plc f n).length ≤ n
  | 0 => by simp [plc]
  | n + 1 => by
    have := plc_le f n
    unfold plc
    split
    · simp; omega
    · omega
theorem plc_mono (f : Nat → Bool) (n : Nat) : ∀ m, n ≤ m → ∃ r, plc f m = plc f n ++ r
  | 0, h => ⟨[], by rw [show n = 0 by omega]; simp⟩
  | m + 1, h => by
    rcases Nat.lt_or_ge m n with h' | h'
    · exact ⟨[], by rw [show n = m + 1 by omega]; simp⟩
    · obtain ⟨r, hr⟩ := plc_mono f n m h'
      rw [plc_succ, hr]
      split
      · exact ⟨r ++ [(m : Int)], by rw [List.append_assoc]⟩
      · exact ⟨r, rfl⟩
/-- A place at which f holds is found at the number of such places ahead of it. -/
theorem plc_at (f : Nat → Bool) (i n : Nat) (hi : i < n) (hf : f i = true) : (plc f n)[(plc f i).length]? = some (i : Int) := by
  obtain ⟨r, hr⟩ := plc_mono f (i + 1) n hi
  rw [hr, plc_succ]
  rw [if_pos hf, List.append_assoc, List.getElem?_append_right (Nat.le_refl _), Nat.sub_self]
  rfl
theorem plc_false (f : Nat → Bool) (h : ∀ i, f i = false) : ∀ n, plc f n = []
  | 0 => rfl
  | n + 1 => by
    unfold plc
    rw [h n, plc_false f h n]
    rfl

def ptIs (l : List Pt) (kind : Int) (i : Nat) : Bool := (l.getD i noPt).kind == kind
def ctlIs (l : List Ctl) (kind : Int) (i : Nat) : Bool := (l.getD i noCtl).kind == kind
def kindK (kind : Int) : Int := if kind = 5 then 4 else kind
/-- The places of a kind. -/
def placesN (c : Cfg) (kind : Int) : List Int :=
  if 1 ≤ kind ∧ kind ≤ 5 then plc (ptIs c.points (kindK kind)) c.points.length
  else if kind = 6 ∨ kind = 7 then plc (ctlIs c.ctls kind) c.ctls.length
  else []
theorem placesN_le (c : Cfg) (kind : Int) (hf : FewC c) : (placesN c kind).length ≤ 300 := by
  unfold placesN
  split
  · exact Nat.le_trans (plc_le _ _) hf.2.2.1
  · split
    · exact Nat.le_trans (plc_le _ _) hf.2.2.2
    · simp
/-- What Find answers. -/
def findN (c : Cfg) (kind index : Int) : Int × Bool :=
  if 0 ≤ index ∧ index < (placesN c kind).length then ((placesN c kind).getD index.toNat 0, true) else (0, false)
/-- What Index answers. -/
def indexN (c : Cfg) (place : Int) : Int :=
  if 0 ≤ place ∧ place < (c.points.length : Int) then ((plc (ptIs c.points (c.points.getD place.toNat noPt).kind) place.toNat).length : Int) else -1
theorem find_at (c : Cfg) (i : Nat) (hi : i < c.points.length) (h1 : 1 ≤ (c.points.getD i noPt).kind) (h2 : (c.points.getD i noPt).kind ≤ 4) : findN c (c.points.getD i noPt).kind (indexN c (i : Int)) = ((i : Int), true) := by
  have hk : kindK (c.points.getD i noPt).kind = (c.points.getD i noPt).kind := by unfold kindK; rw [if_neg (by omega)]
  have hp : placesN c (c.points.getD i noPt).kind = plc (ptIs c.points (c.points.getD i noPt).kind) c.points.length := by
    unfold placesN
    rw [if_pos (by omega), hk]
  have hx : indexN c (i : Int) = ((plc (ptIs c.points (c.points.getD i noPt).kind) i).length : Int) := by
    unfold indexN
    rw [if_pos (by omega)]
    rfl
  have ha := plc_at (ptIs c.points (c.points.getD i noPt).kind) i c.points.length hi (by simp [ptIs])
  rw [hx]
  unfold findN
  rw [hp]
  generalize plc (ptIs c.points (c.points.getD i noPt).kind) c.points.length = P at *
  generalize (plc (ptIs c.points (c.points.getD i noPt).kind) i).length = m at *
  have hlt := (List.getElem?_eq_some_iff.1 ha).1
  rw [if_pos (by omega), List.getD_eq_getElem?_getD, Int.toNat_natCast, ha]
  rfl
theorem index_pos (c : Cfg) (i : Nat) (hi : i < c.points.length) : 0 ≤ indexN c (i : Int) := by
  unfold indexN
  rw [if_pos (by omega)]
  omega
theorem find_last (c : Cfg) (kind : Int) : (findN c kind (((placesN c kind).length : Int) - 1)).2 = decide (0 < ((placesN c kind).length : Int)) := by
  unfold findN
  by_cases h : 0 < (placesN c kind).length
  · rw [if_pos (by omega)]
    exact (decide_eq_true (by omega)).symm
  · rw [if_neg (by omega)]
    exact (decide_eq_false (by omega)).symm
theorem find_out (c : Cfg) (kind : Int) : (findN c kind ((placesN c kind).length : Int)).2 = false := by
  unfold findN
  rw [if_neg (by omega)]
end Go.Proofs.YtpocjmlkhophoaaGreatDoor
/- config.pointsOf, controlsOf and placesOf: the places of a kind, in a list of the call's own. -/
namespace Go.Proofs.YtpocjmlkhophoaaGreatDoor
open Go.RowKit Go.Extern.Stop Go.Stop Go.Extern

/-- A list of numbers of the call's own. -/
def NumsIs (w : World) (l : List Int) (e : Ending) (w' : World) : Prop := ∃ v, e = .returned v ∧ w'.ownsRow w.heap.size 3 1 v l.length (icells l) ∧ Below w.heap.size w w'
def PlInv (w : World) (l : List Int) (v : Value) (wr : World) : Prop := wr.ownsRow w.heap.size 3 1 v l.length (icells l) ∧ Below w.heap.size w wr
theorem plInv_nil (w : World) : PlInv w [] (.slice none 0 0) w := ⟨World.ownsRow_nil _ _ _ _, Below.refl _ _⟩
theorem next_i64 (i : Nat) (h : i < 1000000) : Value.int .i64 (wrap64 ((i : Int) + 1)) = .int .i64 ((i + 1 : Nat) : Int) := by
  congr 1
  unfold wrap64
  omega
/-- one place more, behind an element's box. -/
theorem plInv_more {w wr : World} {l : List Int} {v : Value} (h : PlInv w l v wr) (o : Obj) (x : Int) (hl : l.length ≤ 10000) :
    ∃ v' w', (Builtin.append_ #[23, 23] 23 #[v, .slice (some ⟨wr.heap.size + 1, 0, none⟩) 1 1]).run Tryz.prog ((wr.alloc o).alloc (.cells #[.int .i64 x] 3)) = .ok v' w' ∧ PlInv w (l ++ [x]) v' w' := by
  have hb0 : Below w.heap.size w (wr.alloc o) := h.2.trans ((below_new wr o).mono h.2.size)
  obtain ⟨v', w', h1, h2, h3⟩ := app_int (wr.alloc o) w.heap.size v l x (h.1.alloc _) hb0.size (by omega)
  have hsz : (wr.alloc o).heap.size = wr.heap.size + 1 := by simp
  rw [hsz] at h1
  exact ⟨v', w', h1, by rw [List.length_append]; exact h2, hb0.trans h3⟩
theorem plInv_box {w wr : World} {l : List Int} {v : Value} (h : PlInv w l v wr) (o : Obj) : PlInv w l v (wr.alloc o) := ⟨h.1.alloc _, h.2.trans ((below_new wr o).mono h.2.size)⟩

set_option maxRecDepth 100000 in
set_option maxHeartbeats 2000000 in
theorem pointsOf_any (l : List Pt) (kind : Int) (x : Value) (w : World) (hx : LiesAt w x l.length (ptCells l)) (hl : l.length ≤ 1000) : Calls Tryz.prog 77 #[x, .int .i64 kind] w (NumsIs w (plc (ptIs l kind) l.length)) := by
  have HC := Lib.hid hx
  have HL := Lib.hid hl
  obtain ⟨ao, cap, rfl, _⟩ := hx
  clear hl
  go_enter Tryz.func77, Tryz.ntmps77
  go_wp2
  go_loopg [5, 10] l.length (fun k s5 s10 wr => ∃ i : Nat, i ≤ l.length ∧ k = l.length - i ∧ s10 = .int .i64 i ∧ Hid (PlInv w (plc (ptIs l kind) i) s5 wr))
  case atStart => exact ⟨0, Nat.zero_le _, rfl, rfl, Lib.hid (plInv_nil w)⟩
  case round =>
    obtain ⟨i, hi, rfl, rfl, HI⟩ := hrel
    obtain ⟨a5, c5, hs5⟩ := own_slice HI.out.1
    subst hs5
    by_cases hlt : i < l.length
    · obtain ⟨bb, off, rfl, p0, p1, p2, p3, p4, p5, p6, p7⟩ := row8_of (HC.out.on HI.out.2) i hlt
      have HK : Hid (ptIs l kind i = (l[i].kind == kind)) := Lib.hid (by simp [ptIs, hlt])
      have HB := Lib.hid (show i < 1000000 by have := HL.out; omega)
      have HQ := Lib.hid (Nat.le_trans (plc_le (ptIs l kind) i) (by have := HL.out; omega : i ≤ 10000))
      generalize l[i] = y at *
      rcases Bool.eq_false_or_eq_true (y.kind == kind) with h0 | h0
      · obtain ⟨v', w', happ, hn⟩ := plInv_more HI.out (.cells #[.int .i64 y.kind, .int .i64 y.poll, .int .i64 y.place, .int .i64 y.cls, .int .i64 y.dead, .int .i64 y.num, .int .i64 y.den, .int .i64 y.off] 62) (i : Int) HQ.out
        have HN : Hid (PlInv w (plc (ptIs l kind) (i + 1)) v' w') := Lib.hid (by
          rw [plc_succ, HK.out, h0]
          exact hn)
        obtain ⟨av, cv, hsv⟩ := own_slice hn.1
        clear hn HK HQ HI
        subst hsv
        generalize (plc (ptIs l kind) i).length = n5 at *
        generalize (plc (ptIs l kind) i ++ [(i : Int)]).length = nv at *
        go_wp2_with (at_builtin; refine Lib.wpList_append_run _ rfl _ _ _ _ rfl _ _ rfl rfl _ _ happ ?_)
        go_roundg (l.length - (i + 1))
        case measure => omega
        case rel => exact ⟨i + 1, by omega, rfl, next_i64 i HB.out, HN⟩
      · have HN : Hid (PlInv w (plc (ptIs l kind) (i + 1)) (.slice a5 (plc (ptIs l kind) i).length c5) (wr.alloc (.cells #[.int .i64 y.kind, .int .i64 y.poll, .int .i64 y.place, .int .i64 y.cls, .int .i64 y.dead, .int .i64 y.num, .int .i64 y.den, .int .i64 y.off] 62))) := Lib.hid (by
          rw [plc_succ, HK.out, h0]
          exact plInv_box HI.out _)
        clear HK HQ HI
        go_wp2
        go_roundg (l.length - (i + 1))
        case measure => omega
        case rel => exact ⟨i + 1, by omega, rfl, next_i64 i HB.out, HN⟩
    · have HE : Hid (NumsIs w (plc (ptIs l kind) l.length) (.returned (.slice a5 (plc (ptIs l kind) i).length c5)) wr) := Lib.hid (by
        have := HI.out
        have e : i = l.length := by omega
        subst e
        exact ⟨_, rfl, this.1, this.2⟩)
      clear HI
      go_wp2
      go_ret
      exact HE.out
set_option maxRecDepth 100000 in
set_option maxHeartbeats 2000000 in
theorem ctlsOf_any (l : List Ctl) (kind : Int) (x : Value) (w : World) (hx : LiesAt w x l.length (ctlCells l)) (hl : l.length ≤ 1000) : Calls Tryz.prog 123 #[x, .int .i64 kind] w (NumsIs w (plc (ctlIs l kind) l.length)) := by
  have HC := Lib.hid hx
  have HL := Lib.hid hl
  obtain ⟨ao, cap, rfl, _⟩ := hx
  clear hl
  go_enter Tryz.func123, Tryz.ntmps123
  go_wp2
  go_loopg [5, 10] l.length (fun k s5 s10 wr => ∃ i : Nat, i ≤ l.length ∧ k = l.length - i ∧ s10 = .int .i64 i ∧ Hid (PlInv w (plc (ctlIs l kind) i) s5 wr))
  case atStart => exact ⟨0, Nat.zero_le _, rfl, rfl, Lib.hid (plInv_nil w)⟩
  case round =>
    obtain ⟨i, hi, rfl, rfl, HI⟩ := hrel
    obtain ⟨a5, c5, hs5⟩ := own_slice HI.out.1
    subst hs5
    by_cases hlt : i < l.length
    · obtain ⟨bb, off, rfl, p0, p1, p2⟩ := row3_of (HC.out.on HI.out.2) i hlt
      have HK : Hid (ctlIs l kind i = (l[i].kind == kind)) := Lib.hid (by simp [ctlIs, hlt])
      have HB := Lib.hid (show i < 1000000 by have := HL.out; omega)
      have HQ := Lib.hid (Nat.le_trans (plc_le (ctlIs l kind) i) (by have := HL.out; omega : i ≤ 10000))
      generalize l[i] = y at *
      rcases Bool.eq_false_or_eq_true (y.kind == kind) with h0 | h0
      · obtain ⟨v', w', happ, hn⟩ := plInv_more HI.out (.cells #[.int .i64 y.kind, .int .i64 y.slave, .int .i64 y.reg] 70) (i : Int) HQ.out
        have HN : Hid (PlInv w (plc (ctlIs l kind) (i + 1)) v' w') := Lib.hid (by
          rw [plc_succ, HK.out, h0]
          exact hn)
        obtain ⟨av, cv, hsv⟩ := own_slice hn.1
        clear hn HK HQ HI
        subst hsv
        generalize (plc (ctlIs l kind) i).length = n5 at *
        generalize (plc (ctlIs l kind) i ++ [(i : Int)]).length = nv at *
        go_wp2_with (at_builtin; refine Lib.wpList_append_run _ rfl _ _ _ _ rfl _ _ rfl rfl _ _ happ ?_)
        go_roundg (l.length - (i + 1))
        case measure => omega
        case rel => exact ⟨i + 1, by omega, rfl, next_i64 i HB.out, HN⟩
      · have HN : Hid (PlInv w (plc (ctlIs l kind) (i + 1)) (.slice a5 (plc (ctlIs l kind) i).length c5) (wr.alloc (.cells #[.int .i64 y.kind, .int .i64 y.slave, .int .i64 y.reg] 70))) := Lib.hid (by
          rw [plc_succ, HK.out, h0]
          exact plInv_box HI.out _)
        clear HK HQ HI
        go_wp2
        go_roundg (l.length - (i + 1))
        case measure => omega
        case rel => exact ⟨i + 1, by omega, rfl, next_i64 i HB.out, HN⟩
    · have HE : Hid (NumsIs w (plc (ctlIs l kind) l.length) (.returned (.slice a5 (plc (ctlIs l kind) i).length c5)) wr) := Lib.hid (by
        have := HI.out
        have e : i = l.length := by omega
        subst e
        exact ⟨_, rfl, this.1, this.2⟩)
      clear HI
      go_wp2
      go_ret
      exact HE.out
end Go.Proofs.YtpocjmlkhophoaaGreatDoor
