/- Arithmetic alone: a bit of a sum shifted out, eight of them, a row of bytes; they are linear, and with a polynomial of sixteen bits they lose nothing; how the model's 'and' and 'xor' read on numbers of 64 bits. -/
import Derived.WalkKit
import Derived.Laws.BitsAllLaws
namespace Go.Proofs.YtpocjmlkhophoaaGreatDoor

/-- The low sixteen bits. -/
def lo (n : Int) : Nat := (n % 65536).toNat
theorem lo_lt (n : Int) : lo n < 65536 := by unfold lo; omega
theorem lo_nat (n : Nat) (h : n < 65536) : lo (n : Int) = n := by unfold lo; omega
theorem lo_cast (n : Int) : ((lo n : Nat) : Int) = n % 65536 := by unfold lo; omega

/-- One bit shifted out. -/
def bit1 (p s : Nat) : Nat := if s % 2 = 1 then s / 2 ^^^ p else s / 2
def bits8 (p s : Nat) : Nat := bit1 p (bit1 p (bit1 p (bit1 p (bit1 p (bit1 p (bit1 p (bit1 p s)))))))
def stepN (p s b : Nat) : Nat := bits8 p (s ^^^ b)
def runN (p s : Nat) (l : List UInt8) : Nat := l.foldl (fun a b => stepN p a b.toNat) s

theorem xor_lt {a b : Nat} (ha : a < 65536) (hb : b < 65536) : a ^^^ b < 65536 := Nat.xor_lt_two_pow (n := 16) ha hb
theorem cbyte_lt (b : UInt8) : b.toNat < 256 := by have := UInt8.toNat_lt b; omega
theorem bit1_lt {p s : Nat} (hp : p < 65536) (hs : s < 65536) : bit1 p s < 65536 := by
  unfold bit1
  split
  · exact xor_lt (by omega) hp
  · omega
theorem bits8_lt {p s : Nat} (hp : p < 65536) (hs : s < 65536) : bits8 p s < 65536 := by
  unfold bits8
  repeat refine bit1_lt hp ?_
  exact hs
theorem stepN_lt {p s b : Nat} (hp : p < 65536) (hs : s < 65536) (hb : b < 65536) : stepN p s b < 65536 := bits8_lt hp (xor_lt hs hb)
theorem runN_lt {p : Nat} (hp : p < 65536) : ∀ (l : List UInt8) (s : Nat), s < 65536 → runN p s l < 65536
  | [], s, hs => hs
  | b :: l, s, hs => runN_lt hp l (stepN p s b.toNat) (stepN_lt hp hs (by have := cbyte_lt b; omega))
theorem runN_nil (p s : Nat) : runN p s [] = s := rfl
theorem runN_cons (p s : Nat) (b : UInt8) (l : List UInt8) : runN p s (b :: l) = runN p (stepN p s b.toNat) l := rfl
theorem runN_append (p s : Nat) (l m : List UInt8) : runN p s (l ++ m) = runN p (runN p s l) m := by simp [runN, List.foldl_append]
theorem runN_snoc (p s : Nat) (l : List UInt8) (b : UInt8) : runN p s (l ++ [b]) = stepN p (runN p s l) b.toNat := by rw [runN_append]; rfl
theorem runN_take (p s : Nat) (l : List UInt8) (k : Nat) (h : k < l.length) : runN p s (l.take (k + 1)) = stepN p (runN p s (l.take k)) (l[k].toNat) := by
  rw [List.take_add_one, List.getElem?_eq_getElem h]
  exact runN_snoc p s _ _

/-- linear. -/
theorem xor4 (a b c : Nat) : (a ^^^ c) ^^^ (b ^^^ c) = a ^^^ b := by
  rw [Nat.xor_assoc, Nat.xor_comm b c, ← Nat.xor_assoc c c b, Nat.xor_self, Nat.zero_xor]
theorem bit1_xor (p a b : Nat) : bit1 p (a ^^^ b) = bit1 p a ^^^ bit1 p b := by
  have h2 : (a ^^^ b) / 2 = a / 2 ^^^ b / 2 := Nat.xor_div_two
  have hm : (a ^^^ b) % 2 = (a + b) % 2 := by
    have h1 : (a ^^^ b) % 2 ^ 1 = a % 2 ^ 1 ^^^ b % 2 ^ 1 := Nat.xor_mod_two_pow
    rcases Nat.mod_two_eq_zero_or_one a with ha | ha <;> rcases Nat.mod_two_eq_zero_or_one b with hb | hb <;> rw [show (2 : Nat) ^ 1 = 2 from rfl, ha, hb] at h1 <;> rw [h1] <;> first | (show (0 : Nat) = _; omega) | (show (1 : Nat) = _; omega)
  unfold bit1
  by_cases ha : a % 2 = 1 <;> by_cases hb : b % 2 = 1
  · rw [if_neg (by omega), if_pos ha, if_pos hb, h2, xor4]
  · rw [if_pos (by omega), if_pos ha, if_neg hb, h2, Nat.xor_assoc, Nat.xor_assoc, Nat.xor_comm p]
  · rw [if_pos (by omega), if_neg ha, if_pos hb, h2, Nat.xor_assoc]
  · rw [if_neg (by omega), if_neg ha, if_neg hb, h2]
theorem bits8_xor (p a b : Nat) : bits8 p (a ^^^ b) = bits8 p a ^^^ bits8 p b := by
  unfold bits8
  simp only [bit1_xor]
theorem xor_mix (s t a b : Nat) : (s ^^^ t) ^^^ (a ^^^ b) = (s ^^^ a) ^^^ (t ^^^ b) := by
  apply Nat.eq_of_testBit_eq
  intro i
  simp only [Nat.testBit_xor]
  cases s.testBit i <;> cases t.testBit i <;> cases a.testBit i <;> cases b.testBit i <;> rfl
theorem stepN_xor (p s t a b : Nat) : stepN p (s ^^^ t) (a ^^^ b) = stepN p s a ^^^ stepN p t b := by
  unfold stepN
  rw [xor_mix, bits8_xor]
theorem bits8_zero (p : Nat) : bits8 p 0 = 0 := by
  have h : bit1 p 0 = 0 := rfl
  unfold bits8
  simp only [h]
theorem stepN_zero (p : Nat) : stepN p 0 0 = 0 := bits8_zero p

/-- what lies above the low byte comes down. -/
theorem bit1_even (p h : Nat) : bit1 p (2 * h) = h := by
  unfold bit1
  rw [if_neg (by omega)]
  omega
theorem bits8_high (p h : Nat) : bits8 p (256 * h) = h := by
  unfold bits8
  rw [show 256 * h = 2 * (2 * (2 * (2 * (2 * (2 * (2 * (2 * h))))))) by omega]
  simp only [bit1_even]
theorem split_high (x : Nat) : x = (x % 256) ^^^ (256 * (x / 256)) := by
  have h : 256 * (x / 256) ||| x % 256 = 256 * (x / 256) + x % 256 := nat_join 8 _ _ (by omega) (by omega)
  apply Nat.eq_of_testBit_eq
  intro i
  have e256 : (256 : Nat) = 2 ^ 8 := rfl
  rw [Nat.testBit_xor, e256, Nat.testBit_mod_two_pow, Nat.mul_comm, Nat.testBit_mul_two_pow, Nat.testBit_div_two_pow]
  by_cases hi : i < 8
  · simp [hi, show ¬ 8 ≤ i by omega]
  · simp [hi, show 8 ≤ i by omega, show i - 8 + 8 = i by omega]
theorem xor_div256 (s b : Nat) (hb : b < 256) : (s ^^^ b) / 256 = s / 256 := by
  have : (s ^^^ b) / 2 ^ 8 = s / 2 ^ 8 ^^^ b / 2 ^ 8 := Nat.xor_div_two_pow
  have hb0 : b / 2 ^ 8 = 0 := by omega
  rw [hb0, Nat.xor_zero] at this
  exact this
theorem stepN_table (p s b : Nat) (hb : b < 256) : stepN p s b = stepN p 0 ((s ^^^ b) % 256) ^^^ (s / 256) := by
  unfold stepN
  rw [Nat.zero_xor]
  conv => lhs; rw [split_high (s ^^^ b), bits8_xor, bits8_high, xor_div256 s b hb]

/-- a polynomial of sixteen bits loses nothing. -/
theorem bit1_inj0 (p s : Nat) (hp : 32768 ≤ p) (hp2 : p < 65536) (hs : s < 65536) (h : bit1 p s = 0) : s = 0 := by
  unfold bit1 at h
  split at h
  · have : s / 2 = p := by
      have h1 : (s / 2 ^^^ p) ^^^ p = 0 ^^^ p := by rw [h]
      rw [Nat.xor_assoc, Nat.xor_self, Nat.xor_zero, Nat.zero_xor] at h1
      exact h1
    omega
  · omega
theorem bits8_inj0 (p s : Nat) (hp : 32768 ≤ p) (hp2 : p < 65536) (hs : s < 65536) (h : bits8 p s = 0) : s = 0 := by
  have l1 := bit1_lt hp2 hs
  have l2 := bit1_lt hp2 l1
  have l3 := bit1_lt hp2 l2
  have l4 := bit1_lt hp2 l3
  have l5 := bit1_lt hp2 l4
  have l6 := bit1_lt hp2 l5
  have l7 := bit1_lt hp2 l6
  exact bit1_inj0 p _ hp hp2 hs (bit1_inj0 p _ hp hp2 l1 (bit1_inj0 p _ hp hp2 l2 (bit1_inj0 p _ hp hp2 l3 (bit1_inj0 p _ hp hp2 l4 (bit1_inj0 p _ hp hp2 l5 (bit1_inj0 p _ hp hp2 l6 (bit1_inj0 p _ hp hp2 l7 h)))))))
theorem eq_of_xor {a b : Nat} (h : a ^^^ b = 0) : a = b := by
  have h1 : (a ^^^ b) ^^^ b = 0 ^^^ b := by rw [h]
  rw [Nat.xor_assoc, Nat.xor_self, Nat.xor_zero, Nat.zero_xor] at h1
  exact h1
theorem bits8_inj (p s t : Nat) (hp : 32768 ≤ p) (hp2 : p < 65536) (hs : s < 65536) (ht : t < 65536) (h : bits8 p s = bits8 p t) : s = t := by
  refine eq_of_xor (bits8_inj0 p _ hp hp2 (xor_lt hs ht) ?_)
  rw [bits8_xor, h, Nat.xor_self]
theorem xor_cancel {s a b : Nat} (h : s ^^^ a = s ^^^ b) : a = b := by
  have h1 : s ^^^ (s ^^^ a) = s ^^^ (s ^^^ b) := by rw [h]
  rw [← Nat.xor_assoc, ← Nat.xor_assoc, Nat.xor_self, Nat.zero_xor, Nat.zero_xor] at h1
  exact h1
theorem stepN_inj_s (p s t b : Nat) (hp : 32768 ≤ p) (hp2 : p < 65536) (hs : s < 65536) (ht : t < 65536) (hb : b < 256) (h : stepN p s b = stepN p t b) : s = t := by
  have := bits8_inj p _ _ hp hp2 (xor_lt hs (by omega)) (xor_lt ht (by omega)) h
  rw [Nat.xor_comm s, Nat.xor_comm t] at this
  exact xor_cancel this
theorem stepN_inj_b (p s a b : Nat) (hp : 32768 ≤ p) (hp2 : p < 65536) (hs : s < 65536) (ha : a < 256) (hb : b < 256) (h : stepN p s a = stepN p s b) : a = b :=
  xor_cancel (bits8_inj p _ _ hp hp2 (xor_lt hs (by omega)) (xor_lt hs (by omega)) h)
theorem runN_inj (p : Nat) (hp : 32768 ≤ p) (hp2 : p < 65536) : ∀ (l : List UInt8) (s t : Nat), s < 65536 → t < 65536 → runN p s l = runN p t l → s = t
  | [], _, _, _, _, h => h
  | b :: l, s, t, hs, ht, h => stepN_inj_s p s t b.toNat hp hp2 hs ht (cbyte_lt b) (runN_inj p hp hp2 l _ _ (stepN_lt hp2 hs (by have := cbyte_lt b; omega)) (stepN_lt hp2 ht (by have := cbyte_lt b; omega)) h)
/-- one byte is another one: the sum is another one. -/
theorem runN_one (p : Nat) (hp : 32768 ≤ p) (hp2 : p < 65536) (s : Nat) (hs : s < 65536) (l m : List UInt8) (x y : UInt8) (h : runN p s (l ++ x :: m) = runN p s (l ++ y :: m)) : x = y := by
  rw [runN_append, runN_append, runN_cons, runN_cons] at h
  have hl := runN_lt hp2 l s hs
  have := runN_inj p hp hp2 m _ _ (stepN_lt hp2 hl (by have := cbyte_lt x; omega)) (stepN_lt hp2 hl (by have := cbyte_lt y; omega)) h
  exact UInt8.toNat_inj.1 (stepN_inj_b p _ _ _ hp hp2 hl (cbyte_lt x) (cbyte_lt y) this)
theorem runN_set (p : Nat) (hp : 32768 ≤ p) (hp2 : p < 65536) (s : Nat) (hs : s < 65536) (l : List UInt8) (k : Nat) (hk : k < l.length) (y : UInt8) (hy : y ≠ l[k]) : runN p s (l.set k y) ≠ runN p s l := by
  intro h
  have e1 : l.set k y = l.take k ++ y :: l.drop (k + 1) := List.set_eq_take_append_cons_drop.trans (if_pos hk)
  have e2 : l = l.take k ++ l[k] :: l.drop (k + 1) := by rw [← List.drop_eq_getElem_cons hk, List.take_append_drop]
  rw [e1] at h
  conv at h => rhs; rw [e2]
  exact hy (runN_one p hp hp2 s hs _ _ _ _ h)
/-- a sum behind its bytes. -/
theorem step_self (p s : Nat) (_hs : s < 65536) : stepN p s (s % 256) = s / 256 := by
  unfold stepN
  have h : s ^^^ s % 256 = 256 * (s / 256) := by
    conv => lhs; lhs; rw [split_high s]
    rw [Nat.xor_comm (s % 256), Nat.xor_assoc, Nat.xor_self, Nat.xor_zero]
  rw [h, bits8_high]
theorem step_same (p s : Nat) : stepN p s s = 0 := by unfold stepN; rw [Nat.xor_self, bits8_zero]
theorem runN_behind (p s : Nat) (l : List UInt8) (hp : p < 65536) (hs : s < 65536) (x y : UInt8) (hx : x.toNat = runN p s l % 256) (hy : y.toNat = runN p s l / 256) : runN p s (l ++ [x, y]) = 0 := by
  rw [runN_append, runN_cons, runN_cons, runN_nil, hx, hy, step_self p _ (runN_lt hp l s hs), step_same]
/-- three rows mixed. -/
theorem runN_mix (p : Nat) : ∀ (a b c d : List UInt8) (s t u : Nat), b.length = a.length → c.length = a.length → d.length = a.length → (∀ i (ha : i < a.length) (hb : i < b.length) (hc : i < c.length) (hd : i < d.length), d[i].toNat = a[i].toNat ^^^ b[i].toNat ^^^ c[i].toNat) →
    runN p (s ^^^ t ^^^ u) d = runN p s a ^^^ runN p t b ^^^ runN p u c
  | [], [], [], [], s, t, u, _, _, _, _ => rfl
  | x :: a, y :: b, z :: c, q :: d, s, t, u, h1, h2, h3, h => by
    have hq : q.toNat = x.toNat ^^^ y.toNat ^^^ z.toNat := h 0 (by simp) (by simp) (by simp) (by simp)
    rw [runN_cons, runN_cons, runN_cons, runN_cons, hq, stepN_xor, stepN_xor]
    exact runN_mix p a b c d _ _ _ (by simpa using h1) (by simpa using h2) (by simpa using h3) (fun i ha hb hc hd => h (i + 1) (by simpa using ha) (by simpa using hb) (by simpa using hc) (by simpa using hd))

/-- the model's words. -/
theorem wrap_i64_lo (n : Nat) (_h : n < 18446744073709551616) : IntKind.i64.wrap (n : Int) % 65536 = (n : Int) % 65536 := by
  simp [IntKind.wrap, IntKind.bits, IntKind.signed]
  omega
theorem ofInt64_lo (a : Int) : (BitVec.ofInt 64 a).toNat % 65536 = lo a := by
  rw [BitVec.toNat_ofInt]
  unfold lo
  omega
theorem xor_lo (a b : Int) : lo (bits .xor .i64 a b) = lo a ^^^ lo b := by
  have h : bits .xor .i64 a b = IntKind.i64.wrap ((BitVec.ofInt 64 a ^^^ BitVec.ofInt 64 b).toNat : Int) := rfl
  have hx : (BitVec.ofInt 64 a ^^^ BitVec.ofInt 64 b).toNat % 2 ^ 16 = (BitVec.ofInt 64 a).toNat % 2 ^ 16 ^^^ (BitVec.ofInt 64 b).toNat % 2 ^ 16 := by rw [BitVec.toNat_xor]; exact Nat.xor_mod_two_pow
  rw [show (2 : Nat) ^ 16 = 65536 from rfl, ofInt64_lo, ofInt64_lo] at hx
  rw [← hx]
  conv => lhs; unfold lo
  rw [h, wrap_i64_lo _ (BitVec.isLt _)]
  omega
theorem and_lo (a : Int) : bits .and .i64 a 65535 = ((lo a : Nat) : Int) := by
  have h : bits .and .i64 a 65535 = IntKind.i64.wrap ((BitVec.ofInt 64 a &&& BitVec.ofInt 64 65535).toNat : Int) := rfl
  have hx : (BitVec.ofInt 64 a &&& BitVec.ofInt 64 65535).toNat = lo a := by
    rw [BitVec.toNat_and, show (BitVec.ofInt 64 65535).toNat = 65535 from rfl, nat_mask16, ofInt64_lo]
  rw [h, hx]
  have := lo_lt a
  simp [IntKind.wrap, IntKind.bits, IntKind.signed]
  omega
theorem ofInt64_nat (a : Nat) (h : a < 9223372036854775808) : (BitVec.ofInt 64 (a : Int)).toNat = a := by
  rw [BitVec.toNat_ofInt]
  omega
theorem xor_nat (a b : Nat) (ha : a < 65536) (hb : b < 65536) : bits .xor .i64 (a : Int) (b : Int) = ((a ^^^ b : Nat) : Int) := by
  have h : bits .xor .i64 (a : Int) (b : Int) = IntKind.i64.wrap ((BitVec.ofInt 64 (a : Int) ^^^ BitVec.ofInt 64 (b : Int)).toNat : Int) := rfl
  rw [h, BitVec.toNat_xor, ofInt64_nat a (by omega), ofInt64_nat b (by omega)]
  have := xor_lt ha hb
  simp [IntKind.wrap, IntKind.bits, IntKind.signed]
  omega
theorem and_nat (a m : Nat) (ha : a < 65536) (hm : m < 65536) : bits .and .i64 (a : Int) (m : Int) = ((a &&& m : Nat) : Int) := by
  have h : bits .and .i64 (a : Int) (m : Int) = IntKind.i64.wrap ((BitVec.ofInt 64 (a : Int) &&& BitVec.ofInt 64 (m : Int)).toNat : Int) := rfl
  rw [h, BitVec.toNat_and, ofInt64_nat a (by omega), ofInt64_nat m (by omega)]
  have : a &&& m < 65536 := Nat.lt_of_le_of_lt Nat.and_le_left ha
  simp [IntKind.wrap, IntKind.bits, IntKind.signed]
  omega
theorem and_one (a : Nat) (ha : a < 65536) : bits .and .i64 (a : Int) 1 = ((a % 2 : Nat) : Int) := by
  rw [show (1 : Int) = ((1 : Nat) : Int) from rfl, and_nat a 1 ha (by omega), nat_mask1]
theorem and_255 (a : Nat) (ha : a < 65536) : bits .and .i64 (a : Int) 255 = ((a % 256 : Nat) : Int) := by
  rw [show (255 : Int) = ((255 : Nat) : Int) from rfl, and_nat a 255 ha (by omega), nat_mask8]
theorem and16_one (a : Nat) (ha : a < 65536) : bits .and .u16 (a : Int) 1 = ((a % 2 : Nat) : Int) := by
  rw [show (1 : Int) = ((1 : Nat) : Int) from rfl, u16_and_nat a 1 ha (by omega), nat_mask1]
theorem not16 (a : Nat) (ha : a < 65536) : bits .xor .u16 65535 (a : Int) = ((a ^^^ 65535 : Nat) : Int) := by
  rw [show (65535 : Int) = ((65535 : Nat) : Int) from rfl, u16_xor_nat 65535 a (by omega) ha, Nat.xor_comm]
end Go.Proofs.YtpocjmlkhophoaaGreatDoor
