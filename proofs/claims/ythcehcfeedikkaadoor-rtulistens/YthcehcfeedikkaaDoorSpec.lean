/- Frames alone: a frame is opened as what it was made of; with one byte that is another one it is refused. -/
import Derived.Test.YthcehcfeedikkaaDoorFrm2
namespace Go.Proofs.YthcehcfeedikkaaDoor

theorem frCode_zero {a : Int} {n : Nat} : frCode a n = 0 ↔ (0 ≤ a ∧ a ≤ 255) ∧ 0 < n ∧ n ≤ 253 := by
  unfold frCode
  split
  · constructor
    · intro h; cases h
    · omega
  · split
    · constructor
      · intro h; cases h
      · omega
    · split
      · constructor
        · intro h; cases h
        · omega
      · constructor
        · omega
        · intro _; rfl
theorem sumB_inj {l m : List UInt8} (h : sumB l = sumB m) : modN l = modN m := by
  have h1 := modN_lt l
  have h2 := modN_lt m
  simp only [sumB, List.cons.injEq, and_true] at h
  have e1 := congrArg UInt8.toNat h.1
  have e2 := congrArg UInt8.toNat h.2
  simp only [UInt8.toNat_ofNat'] at e1 e2
  omega
theorem frm_take (a : UInt8) (l : List UInt8) : (frm a l).take ((frm a l).length - 2) = a :: l := by
  rw [frm_length, show l.length + 3 - 2 = (a :: l).length by simp]
  unfold frm
  rw [List.take_append_of_le_length (Nat.le_refl _), List.take_length]
theorem frm_drop (a : UInt8) (l : List UInt8) : (frm a l).drop ((frm a l).length - 2) = sumB (a :: l) := by
  rw [frm_length, show l.length + 3 - 2 = (a :: l).length by simp]
  unfold frm
  rw [List.drop_append_of_le_length (Nat.le_refl _), List.drop_length, List.nil_append]
theorem frm_opens (a : UInt8) (l : List UInt8) (h0 : 0 < l.length) (h1 : l.length ≤ 253) : opCode (frm a l) = 0 := by
  unfold opCode
  rw [frm_take, frm_drop, beq_self_eq_true, frm_length, if_neg (by omega), if_neg (by omega)]
  rfl
theorem frm_head (a : UInt8) (l : List UInt8) : (frm a l).headD 0 = a := rfl
theorem frm_mid (a : UInt8) (l : List UInt8) : ((frm a l).drop 1).take ((frm a l).length - 3) = l := by
  rw [frm_length]
  show (l ++ sumB (a :: l)).take l.length = l
  rw [List.take_append_of_le_length (Nat.le_refl _), List.take_length]
theorem opens_parts {l : List UInt8} (h : opCode l = 0) : 4 ≤ l.length ∧ l.length ≤ 256 ∧ l.drop (l.length - 2) = sumB (l.take (l.length - 2)) := by
  unfold opCode at h
  split at h
  · cases h
  · split at h
    · cases h
    · split at h
      · cases h
      · rename_i h1 h2 h3
        refine ⟨by omega, by omega, ?_⟩
        simpa using h3
theorem turned_no {l : List UInt8} (h : opCode l = 0) (k : Nat) (hk : k < l.length) (y : UInt8) (hy : y ≠ l[k]) : opCode (l.set k y) ≠ 0 := by
  intro h2
  obtain ⟨h4, h256, e⟩ := opens_parts h
  obtain ⟨_, _, e2⟩ := opens_parts h2
  rw [List.length_set] at e2
  by_cases hk2 : k < l.length - 2
  · rw [List.drop_set_of_lt hk2, List.take_set] at e2
    have hs := sumB_inj (e.symm.trans e2)
    have hkk : k < (l.take (l.length - 2)).length := by rw [List.length_take]; omega
    exact runN_set 40961 (by omega) (by omega) 65535 (by omega) _ k hkk y (by rw [List.getElem_take]; exact hy) hs.symm
  · rw [List.take_set_of_le (by omega), ← e] at e2
    have := congrArg (fun x => x[k - (l.length - 2)]?) e2
    simp only [List.getElem?_drop, show l.length - 2 + (k - (l.length - 2)) = k by omega] at this
    rw [List.getElem?_set_self hk, List.getElem?_eq_getElem hk] at this
    exact hy (Option.some.inj this)
end Go.Proofs.YthcehcfeedikkaaDoor
