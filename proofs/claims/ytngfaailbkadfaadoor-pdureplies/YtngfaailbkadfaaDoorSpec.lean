/- What the bytes of a request and of a reply are, and what is read out of bytes: lists and numbers alone. What was put together is taken apart again as itself. -/
import Derived.Test.YtngfaailbkadfaaDoorWst
import Derived.Test.YtngfaailbkadfaaDoorPkP
namespace Go.Proofs.YtngfaailbkadfaaDoor
open Go.RowKit Go.Extern.Stop Go.Stop Go.Extern
set_option maxRecDepth 100000

theorem leNum_le : ∀ (n : Nat) (x : Int), 0 ≤ x → x < ((256 ^ n : Nat) : Int) → ((leNum (leBytes n x) : Nat) : Int) = x
  | 0, x, h0, h1 => by
    have : x < 1 := by simpa using h1
    simp [leBytes, leNum]
    omega
  | n + 1, x, h0, h1 => by
    obtain ⟨P, hP⟩ : ∃ P : Nat, P = 256 ^ n := ⟨_, rfl⟩
    rw [Nat.pow_succ, ← hP] at h1
    have h3 := leNum_le n (x / 256) (by omega) (by rw [← hP]; omega)
    simp only [leBytes, leNum]
    rw [UInt8.toNat_ofNat']
    omega
/-- A number of n bytes read at p, the greatest byte first, and where the reader stands then. -/
def rdN (b : List UInt8) (p n : Nat) : Int × Nat := if p + n ≤ b.length then (((leNum ((b.drop p).take n).reverse : Nat) : Int), p + n) else (0, p)
/-- Bytes read at p. -/
def rdB (b : List UInt8) (p : Nat) (n : Int) : List UInt8 × Nat := if p + n.toNat ≤ b.length then ((b.drop p).take n.toNat, p + n.toNat) else ([], p)
theorem rdN_at (a c : List UInt8) (n : Nat) (z : Int) (h0 : 0 ≤ z) (h1 : z < ((256 ^ n : Nat) : Int)) : rdN (a ++ (be n z ++ c)) a.length n = (z, a.length + n) := by
  unfold rdN
  rw [if_pos (by simp [be_length]), List.drop_left, List.take_left' (be_length n z)]
  unfold be
  rw [List.reverse_reverse, leNum_le n z h0 h1]
theorem rdB_at (a d c : List UInt8) : rdB (a ++ (d ++ c)) a.length (d.length : Int) = (d, a.length + d.length) := by
  unfold rdB
  rw [Int.toNat_natCast, if_pos (by simp), List.drop_left, List.take_left' rfl]

/-- Values out of bytes: bits, words. -/
def unF (d : List UInt8) (c : Int) : List Int := (List.range (min c.toNat (8 * d.length))).map fun i => (((d.getD (i / 8) 0).toNat / 2 ^ (i % 8) % 2 : Nat) : Int)
def fwF (d : List UInt8) (c : Int) : List Int := (List.range (min c.toNat (d.length / 2))).map fun i => ((leNum ((d.drop (2 * i)).take 2).reverse : Nat) : Int)
def valsF (f : Int) (d : List UInt8) (c : Int) : List Int := if fTop f = 1 then unF d c else fwF d c
def dataF (f : Int) (l : List Int) : List UInt8 := if fTop f = 1 then packB l else wordsB l
def Words (l : List Int) : Prop := ∀ x ∈ l, 0 ≤ x ∧ x ≤ 65535
theorem unF_length (d : List UInt8) (c : Int) : (unF d c).length = min c.toNat (8 * d.length) := by simp [unF]
theorem fwF_length (d : List UInt8) (c : Int) : (fwF d c).length = min c.toNat (d.length / 2) := by simp [fwF]
theorem bitsN_get : ∀ (l : List Int) (k : Nat), Bits l → bitsN l / 2 ^ k % 2 = (l.getD k 0).toNat
  | [], k, _ => by simp [bitsN]
  | v :: l, 0, h => by
    have := h v List.mem_cons_self
    simp only [bitsN, Nat.pow_zero, Nat.div_one, List.getD_cons_zero]
    rcases this with rfl | rfl
    · show (0 + _) % 2 = 0; omega
    · show (1 + _) % 2 = 1; omega
  | v :: l, k + 1, h => by
    have h1 := bitsN_get l k (fun u hu => h u (List.mem_cons_of_mem _ hu))
    have := h v List.mem_cons_self
    have h2 : (v.toNat + 2 * bitsN l) / 2 = bitsN l := by
      rcases this with rfl | rfl
      · show (0 + _) / 2 = _; omega
      · show (1 + _) / 2 = _; omega
    simp only [bitsN, List.getD_cons_succ]
    rw [Nat.pow_succ', ← Nat.div_div_eq_div_mul, h2, h1]
theorem unF_pack {l : List Int} (h : Bits l) : unF (packB l) (l.length : Int) = l := by
  have hm : min ((l.length : Int)).toNat (8 * (packB l).length) = l.length := by rw [packB_length, Int.toNat_natCast]; omega
  unfold unF
  rw [hm]
  refine List.ext_getElem (by simp) fun i h1 h2 => ?_
  have hj : i / 8 < (l.length + 7) / 8 := by omega
  have e1 : (packB l).getD (i / 8) 0 = UInt8.ofNat (pkAt l (i / 8)) := by simp [packB, List.getD, hj]
  have h3 := pkAt_lt h (i / 8)
  simp only [List.getElem_map, List.getElem_range]
  rw [e1, UInt8.toNat_ofNat', Nat.mod_eq_of_lt h3]
  unfold pkAt
  rw [bitsN_get _ _ (bits_take (bits_drop h _) _)]
  have e2 : (List.take 8 (List.drop (8 * (i / 8)) l)).getD (i % 8) 0 = l[i] := by
    simp only [List.getD]
    rw [List.getElem?_take, if_pos (by omega), List.getElem?_drop, show 8 * (i / 8) + i % 8 = i by omega, List.getElem?_eq_getElem h2]
    rfl
  rw [e2]
  rcases h l[i] (List.getElem_mem h2) with e | e <;> rw [e] <;> rfl
theorem wordsB_cons (x : Int) (l : List Int) : wordsB (x :: l) = be 2 x ++ wordsB l := by simp [wordsB]
theorem wordsB_at : ∀ (l : List Int) (i : Nat) (h : i < l.length), ((wordsB l).drop (2 * i)).take 2 = be 2 l[i]
  | x :: l, 0, _ => by rw [wordsB_cons, Nat.mul_zero, List.drop_zero, List.take_left' (be_length 2 x)]; rfl
  | x :: l, i + 1, h => by
    have h1 := wordsB_at l i (by simpa using h)
    rw [wordsB_cons, show 2 * (i + 1) = (be 2 x).length + 2 * i by rw [be_length]; omega, ← List.drop_drop, List.drop_left, h1]
    rfl
theorem fwF_words {l : List Int} (h : Words l) : fwF (wordsB l) (l.length : Int) = l := by
  have hm : min ((l.length : Int)).toNat ((wordsB l).length / 2) = l.length := by rw [wordsB_length, Int.toNat_natCast]; omega
  unfold fwF
  rw [hm]
  refine List.ext_getElem (by simp) fun i h1 h2 => ?_
  simp only [List.getElem_map, List.getElem_range]
  rw [wordsB_at l i h2]
  unfold be
  have h3 := h l[i] (List.getElem_mem h2)
  rw [List.reverse_reverse, leNum_le 2 _ h3.1 (by show _ < ((65536 : Nat) : Int); omega)]

/-- A request, a reply. -/
structure Rq where
  f : Int
  s : Int
  c : Int
  vs : List Int
structure Rp where
  code : Int
  vs : List Int
def Rq.may (r : Rq) : Bool := mayB r.f r.s r.c r.vs
def wordF (r : Rq) : Int := if r.f = 5 then 65280 * r.vs.headD 0 else if r.f = 6 then r.vs.headD 0 else r.c
def headF (r : Rq) : List UInt8 := be 1 r.f ++ (be 2 r.s ++ be 2 (wordF r))
def putF (f : Int) (l : List Int) : List UInt8 := be 1 ((dataF f l).length : Int) ++ dataF f l
def encF (r : Rq) : List UInt8 := headF r ++ (if r.f = 15 ∨ r.f = 16 then putF r.f r.vs else [])
def takeF (b : List UInt8) (p : Nat) (f c : Int) : List Int := valsF f (rdB b (rdN b p 1).2 (rdN b p 1).1).1 c
def parseF (b : List UInt8) : Rq :=
  if (rdN b 0 1).1 = 5 then ⟨(rdN b 0 1).1, (rdN b (rdN b 0 1).2 2).1, 1, [(rdN b (rdN b (rdN b 0 1).2 2).2 2).1 / 65280]⟩
  else if (rdN b 0 1).1 = 6 then ⟨(rdN b 0 1).1, (rdN b (rdN b 0 1).2 2).1, 1, [(rdN b (rdN b (rdN b 0 1).2 2).2 2).1]⟩
  else if (rdN b 0 1).1 = 15 ∨ (rdN b 0 1).1 = 16 then ⟨(rdN b 0 1).1, (rdN b (rdN b 0 1).2 2).1, (rdN b (rdN b (rdN b 0 1).2 2).2 2).1, takeF b (rdN b (rdN b (rdN b 0 1).2 2).2 2).2 (rdN b 0 1).1 (rdN b (rdN b (rdN b 0 1).2 2).2 2).1⟩
  else ⟨(rdN b 0 1).1, (rdN b (rdN b 0 1).2 2).1, (rdN b (rdN b (rdN b 0 1).2 2).2 2).1, []⟩
def mayR (r : Rq) (p : Rp) : Bool := within p.code 0 255 && areV p.vs (if p.code = 0 ∧ fReads r.f = true then r.c else 0) (fTop r.f)
def ansF (r : Rq) (p : Rp) : List UInt8 := if p.code = 0 then (if fReads r.f = true then be 1 r.f ++ putF r.f p.vs else headF r) else be 1 (r.f + 128) ++ be 1 p.code
def parseR (r : Rq) (b : List UInt8) : Rp := if (rdN b 0 1).1 = r.f then (if fReads r.f = true then ⟨0, takeF b (rdN b 0 1).2 r.f r.c⟩ else ⟨0, []⟩) else ⟨(rdN b (rdN b 0 1).2 1).1, []⟩

/-- A row of bits or of words. -/
def ValsOk (f : Int) (l : List Int) : Prop := (fTop f = 1 ∧ Bits l) ∨ (fTop f = 65535 ∧ Words l)
theorem areV_iff {l : List Int} {n t : Int} : areV l n t = true ↔ (l.length : Int) = n ∧ ∀ v ∈ l, 0 ≤ v ∧ v ≤ t := by
  simp [areV, List.all_eq_true, within]
theorem fTop_of {f : Int} (h : 1 ≤ fMost f) : fTop f = 1 ∨ fTop f = 65535 := by
  revert h
  unfold fMost fTop
  repeat' split
  all_goals omega
theorem valsOk_of {f : Int} {l : List Int} {n : Int} (h : 1 ≤ fMost f) (ha : areV l n (fTop f) = true) : ValsOk f l := by
  have h1 := (areV_iff.1 ha).2
  rcases fTop_of h with e | e
  · exact .inl ⟨e, fun v hv => by have := h1 v hv; omega⟩
  · exact .inr ⟨e, fun v hv => by have := h1 v hv; omega⟩
theorem dataF_length {f : Int} {l : List Int} : (dataF f l).length = if fTop f = 1 then (l.length + 7) / 8 else 2 * l.length := by
  unfold dataF
  split
  · exact packB_length l
  · exact wordsB_length l
theorem valsF_data {f : Int} {l : List Int} (h : ValsOk f l) : valsF f (dataF f l) (l.length : Int) = l := by
  unfold valsF dataF
  rcases h with ⟨e, h⟩ | ⟨e, h⟩
  · rw [if_pos e, if_pos e, unF_pack h]
  · rw [if_neg (by omega), if_neg (by omega), fwF_words h]
theorem takeF_put (a c : List UInt8) (f : Int) (l : List Int) (h : ValsOk f l) (hl : (dataF f l).length ≤ 255) : takeF (a ++ (putF f l ++ c)) a.length f (l.length : Int) = l := by
  unfold takeF putF
  rw [List.append_assoc, rdN_at a _ 1 _ (by omega) (by show _ < ((256 : Nat) : Int); omega)]
  show valsF f (rdB _ (a.length + 1) _).1 _ = l
  have e := rdB_at (a ++ be 1 ((dataF f l).length : Int)) (dataF f l) c
  rw [List.append_assoc, List.length_append, be_length] at e
  rw [e]
  exact valsF_data h

theorem may_iff {r : Rq} : r.may = true ↔ (1 ≤ r.c ∧ r.c ≤ fMost r.f) ∧ (0 ≤ r.s ∧ r.s ≤ 65536 - r.c) ∧ ((r.vs.length : Int) = (if fReads r.f = true then 0 else r.c) ∧ ∀ v ∈ r.vs, 0 ≤ v ∧ v ≤ fTop r.f) := by
  unfold Rq.may mayB
  rw [Bool.and_eq_true, Bool.and_eq_true, within_iff, within_iff, areV_iff, and_assoc]
theorem fMost_cases {f : Int} (h : 1 ≤ fMost f) : f = 1 ∨ f = 2 ∨ f = 3 ∨ f = 4 ∨ f = 5 ∨ f = 6 ∨ f = 15 ∨ f = 16 := by
  revert h
  unfold fMost
  repeat' split
  all_goals omega
/-- What a valid request is, way by way. -/
inductive Kind (r : Rq) : Prop
  | read (hf : r.f = 1 ∨ r.f = 2 ∨ r.f = 3 ∨ r.f = 4) (hc : 1 ≤ r.c ∧ r.c ≤ fMost r.f) (hc2 : r.c ≤ 2000) (hs : 0 ≤ r.s ∧ r.s ≤ 65535) (hv : r.vs = [])
  | bit (hf : r.f = 5) (hc : r.c = 1) (hs : 0 ≤ r.s ∧ r.s ≤ 65535) (v : Int) (hv : r.vs = [v]) (hb : v = 0 ∨ v = 1)
  | reg (hf : r.f = 6) (hc : r.c = 1) (hs : 0 ≤ r.s ∧ r.s ≤ 65535) (v : Int) (hv : r.vs = [v]) (hb : 0 ≤ v ∧ v ≤ 65535)
  | many (hf : r.f = 15 ∨ r.f = 16) (hc : r.c = r.vs.length) (hc1 : 1 ≤ r.vs.length) (hc2 : r.vs.length ≤ 1968) (hs : 0 ≤ r.s ∧ r.s ≤ 65535) (hv : ValsOk r.f r.vs) (hd : (dataF r.f r.vs).length ≤ 246)
theorem kind_of {r : Rq} (h : r.may = true) : Kind r := by
  obtain ⟨hc, hs, hl, hv⟩ := may_iff.1 h
  obtain ⟨f, s, c, vs⟩ := r
  dsimp only at hc hs hl hv
  have hs' : 0 ≤ s ∧ s ≤ 65535 := by omega
  have hm : 1 ≤ fMost f := by omega
  rcases fMost_cases hm with rfl | rfl | rfl | rfl | rfl | rfl | rfl | rfl
  · have e1 : fMost 1 = 2000 := by decide
    have e2 : c ≤ 2000 := by omega
    exact .read (.inl rfl) hc e2 hs' (List.eq_nil_of_length_eq_zero (by simp [fReads] at hl; simp [hl]))
  · have e1 : fMost 2 = 2000 := by decide
    have e2 : c ≤ 2000 := by omega
    exact .read (.inr (.inl rfl)) hc e2 hs' (List.eq_nil_of_length_eq_zero (by simp [fReads] at hl; simp [hl]))
  · have e1 : fMost 3 = 125 := by decide
    have e2 : c ≤ 2000 := by omega
    exact .read (.inr (.inr (.inl rfl))) hc e2 hs' (List.eq_nil_of_length_eq_zero (by simp [fReads] at hl; simp [hl]))
  · have e1 : fMost 4 = 125 := by decide
    have e2 : c ≤ 2000 := by omega
    exact .read (.inr (.inr (.inr rfl))) hc e2 hs' (List.eq_nil_of_length_eq_zero (by simp [fReads] at hl; simp [hl]))
  · have hm1 : fMost 5 = 1 := by decide
    have hr : fReads 5 = false := by decide
    rw [hr] at hl
    obtain ⟨v, rfl⟩ := List.length_eq_one_iff.1 (show vs.length = 1 by simp at hl; omega)
    have := hv v List.mem_cons_self
    have ht : fTop 5 = 1 := by decide
    exact .bit rfl (by dsimp only; omega) hs' v rfl (by omega)
  · have hm1 : fMost 6 = 1 := by decide
    have hr : fReads 6 = false := by decide
    rw [hr] at hl
    obtain ⟨v, rfl⟩ := List.length_eq_one_iff.1 (show vs.length = 1 by simp at hl; omega)
    have := hv v List.mem_cons_self
    have ht : fTop 6 = 65535 := by decide
    exact .reg rfl (by dsimp only; omega) hs' v rfl (by omega)
  · have hm1 : fMost 15 = 1968 := by decide
    have hr : fReads 15 = false := by decide
    have ht : fTop 15 = 1 := by decide
    rw [hr] at hl
    have hl2 : (vs.length : Int) = c := by simpa using hl
    exact .many (.inl rfl) hl2.symm (by dsimp only; omega) (by dsimp only; omega) hs' (.inl ⟨ht, fun v h => by have := hv v h; omega⟩) (by dsimp only; rw [dataF_length, if_pos ht]; omega)
  · have hm1 : fMost 16 = 123 := by decide
    have hr : fReads 16 = false := by decide
    have ht : fTop 16 = 65535 := by decide
    rw [hr] at hl
    have hl2 : (vs.length : Int) = c := by simpa using hl
    exact .many (.inr rfl) hl2.symm (by dsimp only; omega) (by dsimp only; omega) hs' (.inr ⟨ht, fun v h => by have := hv v h; omega⟩) (by dsimp only; rw [dataF_length, if_neg (by omega)]; omega)

theorem word_ok {r : Rq} (h : r.may = true) : 0 ≤ wordF r ∧ wordF r < 65536 := by
  unfold wordF
  cases kind_of h with
  | read hf hc hc2 hs hv => rw [if_neg (by omega), if_neg (by omega)]; omega
  | bit hf hc hs v hv hb => rw [if_pos hf, hv]; simp only [List.headD_cons]; omega
  | reg hf hc hs v hv hb => rw [if_neg (by omega), if_pos hf, hv]; simp only [List.headD_cons]; omega
  | many hf hc hc1 hc2 hs hv hd => rw [if_neg (by omega), if_neg (by omega)]; omega
theorem f_ok {r : Rq} (h : r.may = true) : 1 ≤ r.f ∧ r.f ≤ 16 := by
  cases kind_of h <;> omega
theorem s_ok {r : Rq} (h : r.may = true) : 0 ≤ r.s ∧ r.s ≤ 65535 := by
  cases kind_of h <;> assumption
theorem headF_length (r : Rq) : (headF r).length = 5 := by simp [headF, be_length]
theorem encF_length {r : Rq} (h : r.may = true) : 5 ≤ (encF r).length ∧ (encF r).length ≤ 252 := by
  unfold encF
  rw [List.length_append, headF_length]
  split
  · cases kind_of h with
    | many hf hc hc1 hc2 hs hv hd => rw [putF, List.length_append, be_length]; omega
    | _ => omega
  · simp
/-- The three numbers that every request begins with, read back. -/
theorem head_read {r : Rq} (h : r.may = true) (m : List UInt8) : rdN (headF r ++ m) 0 1 = (r.f, 1) ∧ rdN (headF r ++ m) 1 2 = (r.s, 3) ∧ rdN (headF r ++ m) 3 2 = (wordF r, 5) := by
  have hf := f_ok h
  have hs := s_ok h
  have hw := word_ok h
  unfold headF
  refine ⟨?_, ?_, ?_⟩
  · have := rdN_at [] ((be 2 r.s ++ be 2 (wordF r)) ++ m) 1 r.f (by omega) (by show _ < ((256 : Nat) : Int); omega)
    simpa using this
  · have := rdN_at (be 1 r.f) (be 2 (wordF r) ++ m) 2 r.s (by omega) (by show _ < ((65536 : Nat) : Int); omega)
    rw [be_length] at this
    simpa using this
  · have := rdN_at (be 1 r.f ++ be 2 r.s) m 2 (wordF r) (by omega) (by show _ < ((65536 : Nat) : Int); omega)
    rw [List.length_append, be_length, be_length] at this
    simpa using this
theorem parse_enc {r : Rq} (h : r.may = true) : parseF (encF r) = r := by
  obtain ⟨h1, h2, h3⟩ := head_read h (if r.f = 15 ∨ r.f = 16 then putF r.f r.vs else [])
  unfold parseF encF
  rw [h1]
  dsimp only
  rw [h2]
  dsimp only
  rw [h3]
  dsimp only
  cases kind_of h with
  | read hf hc hc2 hs hv =>
    rw [if_neg (by omega), if_neg (by omega), if_neg (by omega), wordF, if_neg (by omega), if_neg (by omega), ← hv]
  | bit hf hc hs v hv hb =>
    rw [if_pos hf, wordF, if_pos hf, hv]
    simp only [List.headD_cons]
    have : 65280 * v / 65280 = v := by omega
    rw [this, ← hc, ← hv]
  | reg hf hc hs v hv hb =>
    rw [if_neg (by omega), if_pos hf, wordF, if_neg (by omega), if_pos hf, hv]
    simp only [List.headD_cons]
    rw [← hc, ← hv]
  | many hf hc hc1 hc2 hs hv hd =>
    rw [if_neg (by omega), if_neg (by omega), if_pos hf, if_pos hf, wordF, if_neg (by omega), if_neg (by omega), hc]
    have := takeF_put (headF r) [] r.f r.vs hv (by omega)
    rw [List.append_nil, headF_length] at this
    rw [this, ← hc]
theorem enc_inj {r q : Rq} (h : r.may = true) (k : q.may = true) (e : encF r = encF q) : r = q := by
  rw [← parse_enc h, e, parse_enc k]

/-- What a reply is, way by way. -/
inductive RKind (r : Rq) (p : Rp) : Prop
  | exc (hc : 1 ≤ p.code ∧ p.code ≤ 255) (hv : p.vs = [])
  | read (hc : p.code = 0) (hr : fReads r.f = true) (hl : (p.vs.length : Int) = r.c) (hv : ValsOk r.f p.vs) (hd : (dataF r.f p.vs).length ≤ 250)
  | done (hc : p.code = 0) (hr : fReads r.f = false) (hv : p.vs = [])
theorem rkind_of {r : Rq} {p : Rp} (h : r.may = true) (k : mayR r p = true) : RKind r p := by
  unfold mayR at k
  rw [Bool.and_eq_true, within_iff] at k
  obtain ⟨hc, ha⟩ := k
  by_cases h0 : p.code = 0
  · cases hr : fReads r.f with
    | true =>
      rw [hr, if_pos ⟨h0, rfl⟩] at ha
      have hl := (areV_iff.1 ha).1
      obtain ⟨hm, _, _⟩ := may_iff.1 h
      have hv := valsOk_of (by omega) ha
      refine .read h0 hr hl hv ?_
      rw [dataF_length]
      rcases hv with ⟨e, _⟩ | ⟨e, _⟩
      · rw [if_pos e]
        have : fMost r.f ≤ 2000 := by unfold fMost; repeat' split; all_goals omega
        omega
      · rw [if_neg (by omega)]
        have : fMost r.f ≤ 125 := by
          revert e
          unfold fMost fTop
          repeat' split
          all_goals omega
        omega
    | false =>
      rw [hr, if_neg (by simp)] at ha
      exact .done h0 hr (List.eq_nil_of_length_eq_zero (by have := (areV_iff.1 ha).1; omega))
  · rw [if_neg (by simp [h0])] at ha
    exact .exc (by omega) (List.eq_nil_of_length_eq_zero (by have := (areV_iff.1 ha).1; omega))
theorem ansF_length {r : Rq} {p : Rp} (h : r.may = true) (k : mayR r p = true) : 2 ≤ (ansF r p).length ∧ (ansF r p).length ≤ 252 := by
  unfold ansF
  cases rkind_of h k with
  | exc hc hv => rw [if_neg (by omega)]; simp [be_length]
  | read hc hr hl hv hd => rw [if_pos hc, if_pos hr, List.length_append, putF, List.length_append, be_length, be_length]; omega
  | done hc hr hv => rw [if_pos hc, hr, if_neg (by simp), headF_length]; omega
theorem ans_first {r : Rq} {p : Rp} (h : r.may = true) (k : mayR r p = true) : rdN (ansF r p) 0 1 = (if p.code = 0 then r.f else r.f + 128, 1) := by
  have hf := f_ok h
  unfold ansF
  cases rkind_of h k with
  | exc hc hv =>
    rw [if_neg (by omega), if_neg (by omega)]
    have := rdN_at [] (be 1 p.code) 1 (r.f + 128) (by omega) (by show _ < ((256 : Nat) : Int); omega)
    simpa using this
  | read hc hr hl hv hd =>
    rw [if_pos hc, if_pos hr, if_pos hc]
    have := rdN_at [] (putF r.f p.vs) 1 r.f (by omega) (by show _ < ((256 : Nat) : Int); omega)
    simpa using this
  | done hc hr hv =>
    rw [if_pos hc, hr, if_neg (by simp), if_pos hc]
    have := (head_read h []).1
    simpa using this
theorem parseR_ans {r : Rq} {p : Rp} (h : r.may = true) (k : mayR r p = true) : parseR r (ansF r p) = p := by
  have hf := f_ok h
  have h1 := ans_first h k
  obtain ⟨code, vs⟩ := p
  unfold parseR
  rw [h1]
  dsimp only
  unfold ansF
  cases rkind_of h k with
  | exc hc hv =>
    dsimp only at hc hv ⊢
    rw [if_neg (by omega), if_neg (by omega)]
    have := rdN_at (be 1 (r.f + 128)) [] 1 code (by omega) (by show _ < ((256 : Nat) : Int); omega)
    rw [be_length, List.append_nil] at this
    rw [this, hv]
  | read hc hr hl hv hd =>
    dsimp only at hc hr hl hv hd ⊢
    rw [if_pos hc, if_pos rfl, if_pos hr, if_pos hc, if_pos hr, ← hl]
    have := takeF_put (be 1 r.f) [] r.f vs hv (by omega)
    rw [List.append_nil, be_length] at this
    rw [this, hc]
  | done hc hr hv =>
    dsimp only at hc hr hv ⊢
    rw [if_pos hc, if_pos rfl, hr, if_neg (by simp), hc, hv]
theorem ans_inj {r : Rq} {p q : Rp} (h : r.may = true) (k : mayR r p = true) (k2 : mayR r q = true) (e : ansF r p = ansF r q) : p = q := by
  rw [← parseR_ans h k, e, parseR_ans h k2]
end Go.Proofs.YtngfaailbkadfaaDoor
