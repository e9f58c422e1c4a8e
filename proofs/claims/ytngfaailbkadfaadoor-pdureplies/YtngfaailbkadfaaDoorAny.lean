/- What bytes that are cut off or longer tell: no bytes of a request go on as another one's; where each number stands. -/
import Derived.Test.YtngfaailbkadfaaDoorSpec
import Derived.Test.YtngfaailbkadfaaDoorDec
import Derived.Test.YtngfaailbkadfaaDoorRdrOk
import Derived.Test.YtngfaailbkadfaaDoorFirst
namespace Go.Proofs.YtngfaailbkadfaaDoor
open Go.RowKit Go.Extern.Stop Go.Stop Go.Extern
set_option maxRecDepth 100000

theorem be_one (x : Int) : be 1 x = [UInt8.ofNat (x % 256).toNat] := rfl
theorem be_two (x : Int) : be 2 x = [UInt8.ofNat (x / 256 % 256).toNat, UInt8.ofNat (x % 256).toNat] := rfl
theorem byte_of (x : Int) : ((UInt8.ofNat (x % 256).toNat).toNat : Int) = x % 256 := by
  rw [UInt8.toNat_ofNat']
  omega
theorem be_two_num {x : Int} (h0 : 0 ≤ x) (h1 : x < 65536) : ∃ y z : UInt8, be 2 x = [y, z] ∧ 256 * (y.toNat : Int) + (z.toNat : Int) = x :=
  ⟨_, _, be_two x, by rw [byte_of, byte_of]; omega⟩
theorem be_one_num {x : Int} (h0 : 0 ≤ x) (h1 : x < 256) : ∃ y : UInt8, be 1 x = [y] ∧ (y.toNat : Int) = x :=
  ⟨_, be_one x, by rw [byte_of]; omega⟩
/-- The five bytes that every request begins with. -/
theorem head_bytes {r : Rq} (h : r.may = true) : ∃ b0 b1 b2 b3 b4 : UInt8, headF r = [b0, b1, b2, b3, b4] ∧ (b0.toNat : Int) = r.f ∧ 256 * (b1.toNat : Int) + (b2.toNat : Int) = r.s ∧ 256 * (b3.toNat : Int) + (b4.toNat : Int) = wordF r := by
  have hf := f_ok h
  have hs := s_ok h
  have hw := word_ok h
  obtain ⟨b0, e0, h0⟩ := be_one_num (x := r.f) (by omega) (by omega)
  obtain ⟨b1, b2, e1, h1⟩ := be_two_num (x := r.s) (by omega) (by omega)
  obtain ⟨b3, b4, e2, h2⟩ := be_two_num hw.1 hw.2
  exact ⟨b0, b1, b2, b3, b4, by rw [headF, e0, e1, e2]; rfl, h0, h1, h2⟩
theorem enc_take (r : Rq) : (encF r).take 5 = headF r := by
  unfold encF
  rw [List.take_left' (headF_length r)]
/-- The first five bytes tell how many there are. -/
theorem enc_len {r q : Rq} (h : r.may = true) (k : q.may = true) (e : (encF r).take 5 = (encF q).take 5) : (encF r).length = (encF q).length := by
  rw [enc_take, enc_take] at e
  obtain ⟨h1, h2, h3⟩ := head_read h []
  obtain ⟨k1, k2, k3⟩ := head_read k []
  rw [e] at h1 h2 h3
  rw [h1] at k1
  rw [h3] at k3
  have ef : r.f = q.f := congrArg Prod.fst k1
  have ew : wordF r = wordF q := congrArg Prod.fst k3
  unfold encF
  rw [List.length_append, List.length_append, headF_length, headF_length]
  cases kind_of h with
  | read hf hc hc2 hs hv => rw [if_neg (by omega), if_neg (by omega)]
  | bit hf hc hs v hv hb => rw [if_neg (by omega), if_neg (by omega)]
  | reg hf hc hs v hv hb => rw [if_neg (by omega), if_neg (by omega)]
  | many hf hc hc1 hc2 hs hv hd =>
    cases kind_of k with
    | read kf => omega
    | bit kf => omega
    | reg kf => omega
    | many kf kc kc1 kc2 ks kv kd =>
      rw [if_pos hf, if_pos kf]
      unfold wordF at ew
      rw [if_neg (by omega), if_neg (by omega), if_neg (by omega), if_neg (by omega), hc, kc] at ew
      have el : r.vs.length = q.vs.length := by omega
      unfold putF
      rw [List.length_append, List.length_append, be_length, be_length, dataF_length, dataF_length, ef, el]
/-- Bytes of a request that are cut off are none. -/
theorem dec_cut {r : Rq} (h : r.may = true) (n : Nat) (hn : n < (encF r).length) : decB ((encF r).take n) = false := by
  rw [← Bool.not_eq_true]
  intro hd
  obtain ⟨k, e⟩ := decB_iff.1 hd
  have h5 := (encF_length k).1
  have hl : (encF (parseF ((encF r).take n))).length = n := by
    have := congrArg List.length e
    rw [List.length_take] at this
    omega
  have ht : (encF r).take 5 = (encF (parseF ((encF r).take n))).take 5 := by
    have := congrArg (List.take 5) e
    rw [List.take_take, Nat.min_eq_left (by omega)] at this
    exact this.symm
  have := enc_len h k ht
  omega
/-- Nor with a byte more. -/
theorem dec_more {r : Rq} (h : r.may = true) (x : UInt8) : decB (encF r ++ [x]) = false := by
  rw [← Bool.not_eq_true]
  intro hd
  obtain ⟨k, e⟩ := decB_iff.1 hd
  have h5 := (encF_length h).1
  have hl : (encF (parseF (encF r ++ [x]))).length = (encF r).length + 1 := by
    have := congrArg List.length e
    rw [List.length_append] at this
    exact this
  have ht : (encF r).take 5 = (encF (parseF (encF r ++ [x]))).take 5 := by
    have := congrArg (List.take 5) e
    rw [List.take_append_of_le_length (by omega)] at this
    exact this.symm
  have := enc_len h k ht
  omega
theorem decB_enc {r : Rq} (h : r.may = true) : decB (encF r) = true := by rw [decB_iff, parse_enc h]; exact ⟨h, rfl⟩
/-- The first byte of a reply tells how many there are. -/
theorem ans_len {r : Rq} {p q : Rp} (h : r.may = true) (k : mayR r p = true) (k2 : mayR r q = true) (e : (ansF r p).take 1 = (ansF r q).take 1) : (ansF r p).length = (ansF r q).length := by
  have hf := f_ok h
  have h1 := ans_first h k
  have h2 := ans_first h k2
  have e2 : rdN (ansF r p) 0 1 = rdN (ansF r q) 0 1 := by
    have l1 := (ansF_length h k).1
    have l2 := (ansF_length h k2).1
    unfold rdN
    rw [if_pos (by omega), if_pos (by omega), List.drop_zero, List.drop_zero, e]
  rw [h1, h2] at e2
  have e3 := congrArg Prod.fst e2
  dsimp only at e3
  have ec : (p.code = 0) ↔ (q.code = 0) := by
    constructor
    · intro hp
      rw [if_pos hp] at e3
      by_cases hq : q.code = 0
      · exact hq
      · rw [if_neg hq] at e3; omega
    · intro hq
      rw [if_pos hq] at e3
      by_cases hp : p.code = 0
      · exact hp
      · rw [if_neg hp] at e3; omega
  unfold ansF
  cases rkind_of h k with
  | exc hc hv =>
    have hq : ¬ q.code = 0 := fun hq => by have := ec.2 hq; omega
    rw [if_neg (by omega), if_neg hq]
    simp [be_length]
  | read hc hr hl hv hd =>
    have hq := ec.1 hc
    rw [if_pos hc, if_pos hq, if_pos hr, if_pos hr]
    cases rkind_of h k2 with
    | exc hc2 hv2 => omega
    | read hc2 hr2 hl2 hv2 hd2 =>
      have el : p.vs.length = q.vs.length := by omega
      unfold putF
      simp only [List.length_append, be_length]
      rw [dataF_length, dataF_length, el]
    | done hc2 hr2 hv2 => rw [hr] at hr2; cases hr2
  | done hc hr hv =>
    have hq := ec.1 hc
    rw [if_pos hc, if_pos hq, hr]
    rfl
theorem read_cut {r : Rq} {p : Rp} (h : r.may = true) (k : mayR r p = true) (n : Nat) (hn : n < (ansF r p).length) : readB r ((ansF r p).take n) = false := by
  rw [← Bool.not_eq_true]
  intro hd
  obtain ⟨k2, e⟩ := readB_iff.1 hd
  have h5 := (ansF_length h k2).1
  have hl : (ansF r (parseR r ((ansF r p).take n))).length = n := by
    have := congrArg List.length e
    rw [List.length_take] at this
    omega
  have ht : (ansF r p).take 1 = (ansF r (parseR r ((ansF r p).take n))).take 1 := by
    have := congrArg (List.take 1) e
    rw [List.take_take, Nat.min_eq_left (by omega)] at this
    exact this.symm
  have := ans_len h k k2 ht
  omega
theorem read_more {r : Rq} {p : Rp} (h : r.may = true) (k : mayR r p = true) (x : UInt8) : readB r (ansF r p ++ [x]) = false := by
  rw [← Bool.not_eq_true]
  intro hd
  obtain ⟨k2, e⟩ := readB_iff.1 hd
  have h5 := (ansF_length h k).1
  have hl : (ansF r (parseR r (ansF r p ++ [x]))).length = (ansF r p).length + 1 := by
    have := congrArg List.length e
    rw [List.length_append] at this
    exact this
  have ht : (ansF r p).take 1 = (ansF r (parseR r (ansF r p ++ [x]))).take 1 := by
    have := congrArg (List.take 1) e
    rw [List.take_append_of_le_length (by omega)] at this
    exact this.symm
  have := ans_len h k k2 ht
  omega
theorem readB_ans {r : Rq} {p : Rp} (h : r.may = true) (k : mayR r p = true) : readB r (ansF r p) = true := by rw [readB_iff, parseR_ans h k]; exact ⟨k, rfl⟩
/-- A reply to one function is no reply to another. -/
theorem read_other {r q : Rq} {p : Rp} (h : r.may = true) (k : mayR r p = true) (hq : q.may = true) (hne : r.f ≠ q.f) : readB q (ansF r p) = false := by
  rw [← Bool.not_eq_true]
  intro hd
  obtain ⟨k2, e⟩ := readB_iff.1 hd
  have h1 := ans_first h k
  have h2 := ans_first hq k2
  rw [e, h1] at h2
  have hf := f_ok h
  have hf2 := f_ok hq
  have h3 := congrArg Prod.fst h2
  dsimp only at h3
  split at h3 <;> split at h3 <;> omega
end Go.Proofs.YtngfaailbkadfaaDoor
/- Encode, Decode, Answer and Read, each as one contract: both ways. -/
namespace Go.Proofs.YtngfaailbkadfaaDoor
open Go.RowKit Go.Extern.Stop Go.Stop Go.Extern
set_option maxRecDepth 100000

theorem BytesNo.form {w : World} {x c : Int} {e : Ending} {w' : World} (h : BytesNo w x c e w') : ∃ b : Nat, e = .returned (.tuple #[.slice none 0 0, .iface 113 (.pointer (some ⟨b, 0, none⟩))]) ∧ Below w.heap.size w w' := by
  obtain ⟨v, rfl, hp, hb⟩ := h
  obtain ⟨b, rfl⟩ := hp.form
  exact ⟨b, rfl, hb⟩
theorem BytesOk.form {w : World} {l : List UInt8} {e : Ending} {w' : World} (h : BytesOk w l e w') : ∃ ao cap, e = .returned (.tuple #[.slice ao l.length cap, .nilIface]) ∧ BytesAt w' (.slice ao l.length cap) l ∧ l.length ≤ cap ∧ Below w.heap.size w w' := by
  obtain ⟨x, rfl, hx, hb⟩ := h
  obtain ⟨a, c, rfl, _⟩ := bytesAt_own hx
  exact ⟨a, c, rfl, bytesAt_own hx, row_cap hx, hb⟩
theorem ReqNo.form {w : World} {x c : Int} {e : Ending} {w' : World} (h : ReqNo w x c e w') : ∃ b : Nat, e = .returned (.tuple #[Rq.zero, .iface 113 (.pointer (some ⟨b, 0, none⟩))]) ∧ Below w.heap.size w w' := by
  obtain ⟨v, rfl, hp, hb⟩ := h
  obtain ⟨b, rfl⟩ := hp.form
  exact ⟨b, rfl, hb⟩
theorem RepNo.form {w : World} {x c : Int} {e : Ending} {w' : World} (h : RepNo w x c e w') : ∃ b : Nat, e = .returned (.tuple #[Rp.zero, .iface 113 (.pointer (some ⟨b, 0, none⟩))]) ∧ Below w.heap.size w w' := by
  obtain ⟨v, rfl, hp, hb⟩ := h
  obtain ⟨b, rfl⟩ := hp.form
  exact ⟨b, rfl, hb⟩
/-- What bytes that no reply tells are refused with. -/
def readPlace (r : Rq) (b : List UInt8) : Int := if r.may = true then (rdN b 0 1).1 else r.f
def readCode (r : Rq) (b : List UInt8) : Int := if r.may = true then (if b = [] then 2 else if (rdN b 0 1).1 = r.f ∨ (rdN b 0 1).1 = r.f + 128 then 4 else 6) else 1
theorem read_no (r : Rq) (v vb : Value) (b : List UInt8) (w : World) (hv : IntsAt w v r.vs) (hy : BytesAt w vb b) (hl : r.vs.length ≤ 100000) (hlb : b.length ≤ 100000) (hd : (r.may && readB r b) = false) : Calls Tryd.prog 21 #[r.val v, vb] w (RepNo w (readPlace r b) (readCode r b)) := by
  unfold readPlace readCode
  cases hm : r.may with
  | false =>
    rw [if_neg (by simp), if_neg (by simp)]
    exact read_range r v vb b w hv hy hm hl hlb
  | true =>
    rw [hm, Bool.true_and] at hd
    rw [if_pos rfl, if_pos rfl]
    cases b with
    | nil =>
      rw [rdN_nil, if_pos rfl]
      exact read_nil r v vb w hv hy hm hl
    | cons y l =>
      rw [rdN_first, if_neg (by simp)]
      dsimp only
      by_cases hz : (y.toNat : Int) = r.f ∨ (y.toNat : Int) = r.f + 128
      · rw [if_pos hz]
        exact read_form r v vb y l w hv hy hm hl hlb hd hz
      · rw [if_neg hz]
        exact read_kind r v vb y l w hv hy hm hl hlb (fun h => hz (.inl h)) (fun h => hz (.inr h))
theorem read_yes (r : Rq) (v vb : Value) (b : List UInt8) (w : World) (hv : IntsAt w v r.vs) (hy : BytesAt w vb b) (hl : r.vs.length ≤ 100000) (hlb : b.length ≤ 100000) (hm : r.may = true) (hd : readB r b = true) : Calls Tryd.prog 21 #[r.val v, vb] w (RepOk w (parseR r b)) := by
  obtain ⟨y, l, rfl, hz⟩ := readB_first hm hd
  exact read_ok r v vb y l w hv hy hm hl hlb hd hz
end Go.Proofs.YtngfaailbkadfaaDoor
