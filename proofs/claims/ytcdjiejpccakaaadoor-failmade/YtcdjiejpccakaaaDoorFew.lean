/- yardlaw1.few: are the steps at most 200, their names at most 20000 bytes together: memory stands as it was. -/
import Derived.Test.YtcdjiejpccakaaaDoorFirst
import Derived.StillTailTactics
namespace Go.Proofs.YtcdjiejpccakaaaDoor
open Go.RowKit Go.Extern.Stop Go.Stop Go.Extern

/-- A list of steps that came in, cell by cell. -/
def StepsAt (w : World) (v : Value) (l : List (ByteArray × Int)) : Prop :=
  ∃ ao cap, v = .slice ao l.length cap ∧ l.length ≤ maxLen ∧ (∀ x ∈ l, x.1.size ≤ maxLen ∧ IsInt x.2) ∧ ∀ i (h : i < l.length), ∃ b off, ao = some ⟨b, off, none⟩ ∧ b < w.heap.size ∧ w.cell? ⟨b, off + i * 2, none⟩ = some (.string l[i].1) ∧ w.cell? ⟨b, off + i * 2 + 1, none⟩ = some (.int .i64 l[i].2)

theorem StepsAt.on {w w' : World} {v : Value} {l : List (ByteArray × Int)} (h : StepsAt w v l) (hb : Below w.heap.size w w') : StepsAt w' v l := by
  obtain ⟨ao, cap, hv, hl, hx, h⟩ := h
  refine ⟨ao, cap, hv, hl, hx, fun i hi => ?_⟩
  obtain ⟨b, off, ha, hlt, h0, h1⟩ := h i hi
  exact ⟨b, off, ha, Nat.lt_of_lt_of_le hlt hb.size, (hb.cell (p := ⟨b, off + i * 2, none⟩) hlt).trans h0, (hb.cell (p := ⟨b, off + i * 2 + 1, none⟩) hlt).trans h1⟩

def fewSum : List (ByteArray × Int) → Nat
  | [] => 0
  | x :: l => min x.1.size 20001 + fewSum l
theorem fewSum_append : ∀ l m : List (ByteArray × Int), fewSum (l ++ m) = fewSum l + fewSum m
  | [], _ => by simp [fewSum]
  | x :: l, m => by simp only [List.cons_append, fewSum, fewSum_append l m]; omega
theorem fewSum_le : ∀ l : List (ByteArray × Int), fewSum l ≤ l.length * 20001
  | [] => by simp [fewSum]
  | x :: l => by have := fewSum_le l; simp only [fewSum, List.length_cons]; omega
theorem fewSum_take_succ (l : List (ByteArray × Int)) (i : Nat) (h : i < l.length) : fewSum (l.take (i + 1)) = fewSum (l.take i) + min l[i].1.size 20001 := by
  rw [List.take_succ_eq_append_getElem h, fewSum_append]
  simp [fewSum]
def fewB (l : List (ByteArray × Int)) : Bool := decide (l.length ≤ 200) && decide (fewSum (l.take 200) ≤ 20000)

theorem cast_min (a b : Nat) : (.int .i64 ((a : Int) + min (b : Int) 20001) : Value) = .int .i64 ((a + min b 20001 : Nat) : Int) := by
  congr 1
  omega
theorem ret_bool {a b : Bool} (h : a = b) : Ending.returned (.bool a) = .returned (.bool b) := by rw [h]

set_option maxRecDepth 100000 in
set_option maxHeartbeats 4000000 in
theorem few_any (v : Value) (l : List (ByteArray × Int)) (w : World) (hs : StepsAt w v l) :
    Calls Tryd.prog 10 #[v] w fun e w' => e = .returned (.bool (fewB l)) ∧ w = w' := by
  obtain ⟨ao, cap, rfl, hl, hx, hcell⟩ := hs
  have HC := Lib.hid hcell
  clear hx hcell hl
  go_enter Tryd.func10, Tryd.ntmps10
  go_wp2
  go_loopg [3, 4] 200 (fun k s3 s4 wr => w = wr ∧ ∃ i : Nat, i ≤ l.length ∧ i ≤ 200 ∧ k = 200 - i ∧ s3 = .int .i64 (fewSum (l.take i) : Nat) ∧ s4 = .int .i64 i)
  case atStart => exact ⟨rfl, 0, Nat.zero_le _, Nat.zero_le _, rfl, rfl, rfl⟩
  case round =>
    obtain ⟨rfl, i, hi, hi2, rfl, rfl, rfl⟩ := hrel
    have hsum : fewSum (l.take i) ≤ 200 * 20001 := Nat.le_trans (fewSum_le _) (by rw [List.length_take]; exact Nat.mul_le_mul_right _ (by omega))
    by_cases hlt : i < l.length
    · by_cases hlt2 : i < 200
      · obtain ⟨b, off, rfl, hb, h0, h1⟩ := HC.out i hlt
        have hstep := fewSum_take_succ l i hlt
        have HS := Lib.hid hstep
        clear hstep
        go_wp2
        go_roundg (200 - (i + 1))
        case measure => omega
        case rel => exact ⟨rfl, i + 1, by omega, by omega, rfl, by rw [HS.out, cast_min], by go_num⟩
      · have hf : Hid (fewB l = false) := Lib.hid (by simp [fewB]; omega)
        have h2 : ¬ l.length ≤ 200 := by omega
        go_wp2
        go_ret
        exact ⟨(ret_bool hf.out).symm, rfl⟩
    · have h2 : l.length ≤ 200 := by omega
      have ht : fewSum (l.take i) = fewSum (l.take 200) := by rw [List.take_of_length_le (by omega), List.take_of_length_le (by omega)]
      have hf : Hid (decide ((fewSum (l.take i) : Int) ≤ 20000) = fewB l) := Lib.hid (by
        rw [ht, Bool.eq_iff_iff]
        simp [fewB, h2]
        omega)
      clear ht
      go_wp2
      go_ret
      exact ⟨ret_bool hf.out, rfl⟩

theorem fewSum_mem : ∀ {l : List (ByteArray × Int)} {x : ByteArray × Int}, x ∈ l → min x.1.size 20001 ≤ fewSum l
  | y :: l, x, h => by
    rcases List.mem_cons.1 h with rfl | h
    · simp only [fewSum]; omega
    · have := fewSum_mem h; simp only [fewSum]; omega
theorem place2_size (s : ByteArray) (n : Int) (h : IsInt n) : (place s n ++ ⟨#[58, 32]⟩).data.toList.length ≤ s.size + 24 := by
  have e : (place s n ++ ⟨#[58, 32]⟩).data.toList.length = (place s n).size + 2 := by
    rw [Array.length_toList]
    exact ByteArray.size_append
  have := place_size s n h
  omega
theorem pathText_le : ∀ (l : List (ByteArray × Int)), (∀ x ∈ l, x.1.size ≤ 20000 ∧ IsInt x.2) → (pathText l).length ≤ fewSum l + l.length * 24
  | [], _ => by simp [pathText, fewSum]
  | (s, n) :: l, h => by
    have h1 := h (s, n) (List.mem_cons_self ..)
    have h2 := pathText_le l (fun x hx => h x (List.mem_cons_of_mem _ hx))
    have h3 := place2_size s n h1.2
    simp only [pathText, fewSum, List.length_append, List.length_cons]
    have : min s.size 20001 = s.size := by have := h1.1; simp only at this; omega
    omega
/-- Few steps are short ones. -/
theorem short_of_few {w : World} {v : Value} {l : List (ByteArray × Int)} (hs : StepsAt w v l) (h : fewB l = true) : Short l ∧ l.length ≤ 200 ∧ fewSum l ≤ 20000 := by
  obtain ⟨_, _, _, _, hx, _⟩ := hs
  simp only [fewB, Bool.and_eq_true, decide_eq_true_eq] at h
  obtain ⟨h2, h3⟩ := h
  rw [List.take_of_length_le h2] at h3
  have hm : ∀ x ∈ l, x.1.size ≤ 20000 ∧ IsInt x.2 := fun x hx' => by
    have := fewSum_mem hx'
    exact ⟨by omega, (hx x hx').2⟩
  refine ⟨⟨?_, by omega, fun x hx' => ⟨by have := (hm x hx').1; omega, (hm x hx').2⟩⟩, h2, h3⟩
  have := pathText_le l hm
  omega
end Go.Proofs.YtcdjiejpccakaaaDoor
