/- Bits in bytes, eight a byte, the first one lowest: arithmetic alone. -/
import Derived.Test.YtngfaailbkadfaaDoorInts
import Derived.Test.YtngfaailbkadfaaDoorWFirst
import Derived.Laws.OwnMore
namespace Go.Proofs.YtngfaailbkadfaaDoor
open Go.RowKit Go.Extern.Stop Go.Stop Go.Extern

/-- Bits as a number, the first one lowest; the byte j of a row of bits; all its bytes. -/
def bitsN : List Int → Nat
  | [] => 0
  | v :: l => v.toNat + 2 * bitsN l
def pkAt (l : List Int) (j : Nat) : Nat := bitsN ((l.drop (8 * j)).take 8)
def packB (l : List Int) : List UInt8 := (List.range ((l.length + 7) / 8)).map fun j => UInt8.ofNat (pkAt l j)
/-- A row of bits. -/
def Bits (l : List Int) : Prop := ∀ v ∈ l, v = 0 ∨ v = 1
theorem packB_length (l : List Int) : (packB l).length = (l.length + 7) / 8 := by simp [packB]
theorem bitsN_append : ∀ (l m : List Int), bitsN (l ++ m) = bitsN l + 2 ^ l.length * bitsN m
  | [], m => by simp [bitsN]
  | v :: l, m => by
    simp only [List.cons_append, bitsN, bitsN_append l m, List.length_cons, Nat.pow_succ, Nat.mul_add]
    rw [← Nat.mul_assoc, Nat.mul_comm (2 ^ l.length) 2, Nat.add_assoc]
theorem bitsN_lt : ∀ (l : List Int), Bits l → bitsN l < 2 ^ l.length
  | [], _ => by simp [bitsN]
  | v :: l, h => by
    have h1 := bitsN_lt l (fun u hu => h u (List.mem_cons_of_mem _ hu))
    have h2 := h v List.mem_cons_self
    simp only [bitsN, List.length_cons, Nat.pow_succ]
    rcases h2 with rfl | rfl
    · show 0 + _ < _; omega
    · show 1 + _ < _; omega
theorem bits_take {l : List Int} (h : Bits l) (n : Nat) : Bits (l.take n) := fun v hv => h v (List.mem_of_mem_take hv)
theorem bits_drop {l : List Int} (h : Bits l) (n : Nat) : Bits (l.drop n) := fun v hv => h v (List.mem_of_mem_drop hv)
theorem pkAt_lt {l : List Int} (h : Bits l) (j : Nat) : pkAt l j < 256 := by
  have h1 := bitsN_lt _ (bits_take (bits_drop h (8 * j)) 8)
  have h2 : 2 ^ (List.take 8 (List.drop (8 * j) l)).length ≤ 2 ^ 8 := Nat.pow_le_pow_right (by omega) (by simp [List.length_take]; omega)
  unfold pkAt
  omega
/-- One bit more: the byte at its place has it, the others stand. -/
theorem pkAt_step (l : List Int) (i : Nat) (hi : i < l.length) (j : Nat) : pkAt (l.take (i + 1)) j = if j = i / 8 then pkAt (l.take i) j + 2 ^ (i % 8) * (l[i]).toNat else pkAt (l.take i) j := by
  have ht : l.take (i + 1) = l.take i ++ [l[i]] := (List.take_append_getElem hi).symm
  have hl : (l.take i).length = i := by rw [List.length_take]; omega
  unfold pkAt
  rw [ht, List.drop_append, hl]
  split
  · next h =>
    subst h
    have h1 : 8 * (i / 8) - i = 0 := by omega
    rw [h1, List.drop_zero, List.take_append]
    have h2 : (List.drop (8 * (i / 8)) (l.take i)).length = i % 8 := by rw [List.length_drop, hl]; omega
    rw [h2, List.take_of_length_le (l := List.drop (8 * (i / 8)) (l.take i)) (by omega)]
    have h3 : List.take (8 - i % 8) [l[i]] = [l[i]] := List.take_of_length_le (by simp; omega)
    rw [h3, bitsN_append, h2]
    simp [bitsN]
  · next h =>
    rcases Nat.lt_or_ge j (i / 8) with hj | hj
    · rw [List.take_append]
      have h2 : (List.drop (8 * j) (l.take i)).length = i - 8 * j := by rw [List.length_drop, hl]
      rw [h2]
      have h3 : 8 - (i - 8 * j) = 0 := by omega
      rw [h3, List.take_zero, List.append_nil]
    · have h4 : List.drop (8 * j - i) [l[i]] = [] := List.drop_eq_nil_of_le (by simp; omega)
      rw [h4, List.append_nil]
theorem pkAt_nil (j : Nat) : pkAt [] j = 0 := by simp [pkAt, bitsN]
theorem pkAt_low {l : List Int} (h : Bits l) (i : Nat) (hi : i < l.length) : pkAt (l.take i) (i / 8) < 2 ^ (i % 8) := by
  have h1 := bitsN_lt _ (bits_take (bits_drop (bits_take h i) (8 * (i / 8))) 8)
  have h2 : (List.take 8 (List.drop (8 * (i / 8)) (l.take i))).length = i % 8 := by rw [List.length_take, List.length_drop, List.length_take]; omega
  rw [h2] at h1
  exact h1
/-- The bytes of a row, as cells, when the first i bits are laid. -/
def pcells (l : List Int) (i : Nat) : List Value := (List.range ((l.length + 7) / 8)).map fun j => .int .u8 (pkAt (l.take i) j : Int)
theorem pcells_done {l : List Int} (h : Bits l) : pcells l l.length = bcells (packB l) := by
  unfold pcells bcells packB
  rw [List.map_map]
  refine List.map_congr_left fun j _ => ?_
  show Value.int .u8 _ = Value.int .u8 _
  have h1 := pkAt_lt h j
  rw [List.take_length, UInt8.toNat_ofNat', Nat.mod_eq_of_lt (by omega)]
theorem pcells_get (l : List Int) (i j : Nat) (hj : j < (l.length + 7) / 8) : (pcells l i)[j]? = some (.int .u8 (pkAt (l.take i) j : Int)) := by simp [pcells, hj]
theorem pcells_step (l : List Int) (i : Nat) (hi : i < l.length) : (pcells l i).set (i / 8) (.int .u8 ((pkAt (l.take i) (i / 8) + 2 ^ (i % 8) * (l[i]).toNat : Nat) : Int)) = pcells l (i + 1) := by
  refine List.ext_getElem? fun j => ?_
  by_cases hj : j < (l.length + 7) / 8
  · rw [pcells_get _ _ _ hj, pkAt_step l i hi j, List.getElem?_set]
    by_cases e : i / 8 = j
    · subst e
      rw [if_pos rfl, if_pos rfl, if_pos (by simp [pcells]; omega)]
    · rw [if_neg e, if_neg (fun h => e h.symm), pcells_get _ _ _ hj]
  · rw [List.getElem?_eq_none (by simp [pcells]; omega), List.getElem?_eq_none (by simp [pcells]; omega)]
end Go.Proofs.YtngfaailbkadfaaDoor
