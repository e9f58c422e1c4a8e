/- The places of a kind in a list: as plain values, and what is true of them. -/
import Derived.Test.YtpocjmlkhophoaaGreatDoorGrow
namespace Go.Proofs.YtpocjmlkhophoaaGreatDoor
open Go.RowKit Go.Extern.Stop Go.Stop Go.Extern

/-- The places below n at which f holds. -/
def plc (f : Nat → Bool) : Nat → List Int
  | 0 => []
  | n + 1 => if f n then plc f n ++ [(n : Int)] else plc f n
theorem plc_succ (f : Nat → Bool) (n : Nat) : plc f (n + 1) = if f n then plc f n ++ [(n : Int)] else plc f n := rfl
theorem plc_le (f : Nat → Bool) : ∀ n, (plc f n).length ≤ n
  | 0 => by simp [plc]
  | n + 1 => by
    have := plc_le f n
    unfold plc
    split
    · simp; omega
    · omega
theorem plc_mono (f : Nat → Bool) (n : Nat) : ∀ m, n ≤ m → ∃ r, plc f m = plc f n ++ r
  | 0, h => ⟨[], by rw [show n = 0 by omega]; simp⟩
  | m + 1, h => by
    rcases Nat.lt_or_ge m n with h' | h'
    · exact ⟨[], by rw [show n = m + 1 by omega]; simp⟩
    · obtain ⟨r, hr⟩ := plc_mono f n m h'
      rw [plc_succ, hr]
      split
      · exact ⟨r ++ [(m : Int)], by rw [List.append_assoc]⟩
      · exact ⟨r, rfl⟩
/-- A place at which f holds is found at the number of such places ahead of it. -/
theorem plc_at (f : Nat → Bool) (i n : Nat) (hi : i < n) (hf : f i = true) : (plc f n)[(plc f i).length]? = some (i : Int) := by
  obtain ⟨r, hr⟩ := plc_mono f (i + 1) n hi
  rw [hr, plc_succ]
  rw [if_pos hf, List.append_assoc, List.getElem?_append_right (Nat.le_refl _), Nat.sub_self]
  rfl
theorem plc_false (f : Nat → Bool) (h : ∀ i, f i = false) : ∀ n, plc f n = []
  | 0 => rfl
  | n + 1 => by
    unfold plc
    rw [h n, plc_false f h n]
    rfl

def ptIs (l : List Pt) (kind : Int) (i : Nat) : Bool := (l.getD i noPt).kind == kind
def ctlIs (l : List Ctl) (kind : Int) (i : Nat) : Bool := (l.getD i noCtl).kind == kind
def kindK (kind : Int) : Int := if kind = 5 then 4 else kind
/-- The places of a kind. -/
def placesN (c : Cfg) (kind : Int) : List Int :=
  if 1 ≤ kind ∧ kind ≤ 5 then plc (ptIs c.points (kindK kind)) c.points.length
  else if kind = 6 ∨ kind = 7 then plc (ctlIs c.ctls kind) c.ctls.length
  else []
theorem placesN_le (c : Cfg) (kind : Int) (hf : FewC c) : (placesN c kind).length ≤ 300 := by
  unfold placesN
  split
  · exact Nat.le_trans (plc_le _ _) hf.2.2.1
  · split
    · exact Nat.le_trans (plc_le _ _) hf.2.2.2
    · simp
/-- What Find answers. -/
def findN (c : Cfg) (kind index : Int) : Int × Bool :=
  if 0 ≤ index ∧ index < (placesN c kind).length then ((placesN c kind).getD index.toNat 0, true) else (0, false)
/-- What Index answers. -/
def indexN (c : Cfg) (place : Int) : Int :=
  if 0 ≤ place ∧ place < (c.points.length : Int) then ((plc (ptIs c.points (c.points.getD place.toNat noPt).kind) place.toNat).length : Int) else -1
theorem find_at (c : Cfg) (i : Nat) (hi : i < c.points.length) (h1 : 1 ≤ (c.points.getD i noPt).kind) (h2 : (c.points.getD i noPt).kind ≤ 4) : findN c (c.points.getD i noPt).kind (indexN c (i : Int)) = ((i : Int), true) := by
  have hk : kindK (c.points.getD i noPt).kind = (c.points.getD i noPt).kind := by unfold kindK; rw [if_neg (by omega)]
  have hp : placesN c (c.points.getD i noPt).kind = plc (ptIs c.points (c.points.getD i noPt).kind) c.points.length := by
    unfold placesN
    rw [if_pos (by omega), hk]
  have hx : indexN c (i : Int) = ((plc (ptIs c.points (c.points.getD i noPt).kind) i).length : Int) := by
    unfold indexN
    rw [if_pos (by omega)]
    rfl
  have ha := plc_at (ptIs c.points (c.points.getD i noPt).kind) i c.points.length hi (by simp [ptIs])
  rw [hx]
  unfold findN
  rw [hp]
  generalize plc (ptIs c.points (c.points.getD i noPt).kind) c.points.length = P at *
  generalize (plc (ptIs c.points (c.points.getD i noPt).kind) i).length = m at *
  have hlt := (List.getElem?_eq_some_iff.1 ha).1
  rw [if_pos (by omega), List.getD_eq_getElem?_getD, Int.toNat_natCast, ha]
  rfl
theorem index_pos (c : Cfg) (i : Nat) (hi : i < c.points.length) : 0 ≤ indexN c (i : Int) := by
  unfold indexN
  rw [if_pos (by omega)]
  omega
theorem find_last (c : Cfg) (kind : Int) : (findN c kind (((placesN c kind).length : Int) - 1)).2 = decide (0 < ((placesN c kind).length : Int)) := by
  unfold findN
  by_cases h : 0 < (placesN c kind).length
  · rw [if_pos (by omega)]
    exact (decide_eq_true (by omega)).symm
  · rw [if_neg (by omega)]
    exact (decide_eq_false (by omega)).symm
theorem find_out (c : Cfg) (kind : Int) : (findN c kind ((placesN c kind).length : Int)).2 = false := by
  unfold findN
  rw [if_neg (by omega)]
end Go.Proofs.YtpocjmlkhophoaaGreatDoor
