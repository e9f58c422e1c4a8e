/- yardref7.guess for every row of bytes; the guess of an encoded request is the request. -/
import Derived.Test.YtngfaailbkadfaaDoorQ17
import Derived.Test.YtngfaailbkadfaaDoorQ16
import Derived.Test.YtngfaailbkadfaaDoorSpec2
namespace Go.Proofs.YtngfaailbkadfaaDoor
open Go.RowKit Go.Extern.Stop Go.Stop Go.Extern

/-- The first byte. -/
def fstN (d : List UInt8) : Nat := (d.getD 0 0).toNat
/-- Is a request guessed at all? -/
def gOk (d : List UInt8) : Prop := 5 ≤ d.length ∧ (fstN d = 15 → 6 ≤ d.length ∧ atN d 3 ≤ 1968 ∧ (atN d 3 + 7) / 8 ≤ (d.length : Int) - 6) ∧ (fstN d = 16 → 6 ≤ d.length ∧ atN d 3 ≤ 123 ∧ 2 * atN d 3 ≤ (d.length : Int) - 6)
instance (d : List UInt8) : Decidable (gOk d) := by unfold gOk; infer_instance
/-- Which one. -/
def gF (d : List UInt8) : Rq :=
  if fstN d = 5 then ⟨(fstN d : Int), atN d 1, 1, [atN d 3 / 32768]⟩
  else if fstN d = 6 then ⟨(fstN d : Int), atN d 1, 1, [atN d 3]⟩
  else if fstN d = 15 then ⟨(fstN d : Int), atN d 1, atN d 3, unF (d.drop 6) (atN d 3)⟩
  else if fstN d = 16 then ⟨(fstN d : Int), atN d 1, atN d 3, rgF (d.drop 6) (atN d 3)⟩
  else ⟨(fstN d : Int), atN d 1, atN d 3, []⟩
theorem guess_yes (v : Value) (d : List UInt8) (w : World) (hv : BytesAt w v d) (hl : d.length ≤ 100000) (hcap : ∀ ao n cap, v = .slice ao n cap → n ≤ cap) (h : gOk d) : Calls Tryd.prog 34 #[v] w (GuessOk w (gF d)) := by
  obtain ⟨h5, h15, h16⟩ := h
  obtain ⟨ao, cap, hve, _⟩ := id hv
  have hc := hcap _ _ _ hve
  unfold gF
  by_cases q5 : fstN d = 5
  · rw [if_pos q5]; exact guess_bit v d w hv hl h5 q5
  · rw [if_neg q5]
    by_cases q6 : fstN d = 6
    · rw [if_pos q6]; exact guess_reg v d w hv hl h5 q6
    · rw [if_neg q6]
      by_cases q15 : fstN d = 15
      · rw [if_pos q15]
        obtain ⟨a1, a2, a3⟩ := h15 q15
        rcases Nat.lt_or_ge 6 d.length with h6 | h6
        · exact guess_bits v d w hv hl h5 q15 h6 hcap a2 a3
        · have h6' : d.length = 6 := by omega
          rcases Nat.lt_or_ge 6 cap with hk | hk
          · exact guess15_sixa v d w hv hl h5 q15 (Lib.hid h6') (fun ao' n' c' e => by
              rw [hve] at e
              simp only [Value.slice.injEq] at e
              omega) a2 a3
          · exact guess15_sixb v d w hv hl h5 q15 (Lib.hid h6') (fun ao' n' c' e => by
              rw [hve] at e
              simp only [Value.slice.injEq] at e
              omega) a2 a3
      · rw [if_neg q15]
        by_cases q16 : fstN d = 16
        · rw [if_pos q16]
          obtain ⟨a1, a2, a3⟩ := h16 q16
          rcases Nat.lt_or_ge 6 d.length with h6 | h6
          · exact guess_regs v d w hv hl h5 q16 h6 hcap a2 a3
          · have h6' : d.length = 6 := by omega
            rcases Nat.lt_or_ge 6 cap with hk | hk
            · exact guess16_sixa v d w hv hl h5 q16 (Lib.hid h6') (fun ao' n' c' e => by
                rw [hve] at e
                simp only [Value.slice.injEq] at e
                omega) a2 a3
            · exact guess16_sixb v d w hv hl h5 q16 (Lib.hid h6') (fun ao' n' c' e => by
                rw [hve] at e
                simp only [Value.slice.injEq] at e
                omega) a2 a3
        · rw [if_neg q16]
          have : fstN d < 5 ∨ (6 < fstN d ∧ fstN d ≠ 15 ∧ fstN d ≠ 16) := by omega
          exact guess_read v d w hv hl h5 this
theorem guess_not (v : Value) (d : List UInt8) (w : World) (hv : BytesAt w v d) (hl : d.length ≤ 100000) (h : ¬ gOk d) : Calls Tryd.prog 34 #[v] w (GuessNo w) := by
  rcases Nat.lt_or_ge d.length 5 with h5 | h5
  · exact guess_short v d w hv h5
  · by_cases q15 : fstN d = 15
    · have hn : ¬ (6 ≤ d.length ∧ atN d 3 ≤ 1968 ∧ (atN d 3 + 7) / 8 ≤ (d.length : Int) - 6) := fun x => h ⟨h5, fun _ => x, fun q => by omega⟩
      rcases Nat.lt_or_ge d.length 6 with h6 | h6
      · exact guess15_no1 v d w hv hl h5 q15 h6
      · by_cases a2 : atN d 3 ≤ 1968
        · exact guess15_no3 v d w hv hl h5 q15 h6 a2 (by
            have : ¬ (atN d 3 + 7) / 8 ≤ (d.length : Int) - 6 := fun x => hn ⟨h6, a2, x⟩
            omega)
        · exact guess15_no2 v d w hv hl h5 q15 h6 (by omega)
    · by_cases q16 : fstN d = 16
      · have hn : ¬ (6 ≤ d.length ∧ atN d 3 ≤ 123 ∧ 2 * atN d 3 ≤ (d.length : Int) - 6) := fun x => h ⟨h5, fun q => by omega, fun _ => x⟩
        rcases Nat.lt_or_ge d.length 6 with h6 | h6
        · exact guess16_no1 v d w hv hl h5 q16 h6
        · by_cases a2 : atN d 3 ≤ 123
          · exact guess16_no3 v d w hv hl h5 q16 h6 a2 (by
              have : ¬ 2 * atN d 3 ≤ (d.length : Int) - 6 := fun x => hn ⟨h6, a2, x⟩
              omega)
          · exact guess16_no2 v d w hv hl h5 q16 h6 (by omega)
      · exact absurd ⟨h5, fun q => absurd q q15, fun q => absurd q q16⟩ h

/-- The guess of an encoded request. -/
theorem guess_enc {r : Rq} (h : r.may = true) : gOk (encF r) ∧ gF (encF r) = r := by
  obtain ⟨b0, b1, b2, b3, b4, hh, e0, e1, e2⟩ := head_bytes h
  have hd : ∀ m : List UInt8, ((headF r ++ m).getD 0 0).toNat = b0.toNat ∧ atN (headF r ++ m) 1 = r.s ∧ atN (headF r ++ m) 3 = wordF r := fun m => by
    rw [hh]
    refine ⟨by simp, ?_, ?_⟩
    · unfold atN; simp; omega
    · unfold atN; simp; omega
  have hlen : ∀ m : List UInt8, (headF r ++ m).length = 5 + m.length := fun m => by rw [List.length_append, headF_length]
  have hk := kind_of h
  have hw := word_ok h
  unfold encF
  cases hk with
  | read hf hc hc2 hs hv =>
    have hwf : wordF r = r.c := by unfold wordF; rw [if_neg (by omega), if_neg (by omega)]
    rw [if_neg (by omega)]
    obtain ⟨g0, g1, g2⟩ := hd []
    have g0' : fstN (headF r ++ []) = b0.toNat := g0
    refine ⟨⟨by rw [hlen]; omega, fun q => by omega, fun q => by omega⟩, ?_⟩
    unfold gF
    rw [if_neg (by omega), if_neg (by omega), if_neg (by omega), if_neg (by omega), g0', g1, g2, e0, hwf, ← hv]
  | bit hf hc hs v hv hb =>
    have hwf : wordF r = 65280 * v := by unfold wordF; rw [if_pos hf, hv]; rfl
    rw [if_neg (by omega)]
    obtain ⟨g0, g1, g2⟩ := hd []
    have g0' : fstN (headF r ++ []) = b0.toNat := g0
    refine ⟨⟨by rw [hlen]; omega, fun q => by omega, fun q => by omega⟩, ?_⟩
    unfold gF
    have e : (65280 * v) / 32768 = v := by rcases hb with rfl | rfl <;> decide
    rw [if_pos (by omega), g0', g1, g2, e0, hwf, e, ← hv, ← hc]
  | reg hf hc hs v hv hb =>
    have hwf : wordF r = v := by unfold wordF; rw [if_neg (by omega), if_pos hf, hv]; rfl
    rw [if_neg (by omega)]
    obtain ⟨g0, g1, g2⟩ := hd []
    have g0' : fstN (headF r ++ []) = b0.toNat := g0
    refine ⟨⟨by rw [hlen]; omega, fun q => by omega, fun q => by omega⟩, ?_⟩
    unfold gF
    rw [if_neg (by omega), if_pos (by omega), g0', g1, g2, e0, hwf, ← hv, ← hc]
  | many hf hc hc1 hc2 hs hv hd2 =>
    have hwf : wordF r = r.c := by unfold wordF; rw [if_neg (by omega), if_neg (by omega)]
    rw [if_pos hf]
    obtain ⟨g0, g1, g2⟩ := hd (putF r.f r.vs)
    have g0' : fstN (headF r ++ putF r.f r.vs) = b0.toNat := g0
    have hpl : (putF r.f r.vs).length = 1 + (dataF r.f r.vs).length := by simp [putF, be_length]
    have hdr : (headF r ++ putF r.f r.vs).drop 6 = dataF r.f r.vs := by
      have h6 : (headF r ++ be 1 ((dataF r.f r.vs).length : Int)).length = 6 := by simp [headF_length, be_length]
      unfold putF
      rw [← List.append_assoc, ← h6, List.drop_left]
    have hfr : (b0.toNat : Int) = r.f := e0
    rcases hf with hf | hf
    · have ht : fTop r.f = 1 := by rw [hf]; decide
      have hdl : (dataF r.f r.vs).length = (r.vs.length + 7) / 8 := by rw [dataF_length, if_pos ht]
      have hbits : Bits r.vs := by
        rcases hv with ⟨_, hb⟩ | ⟨ht', _⟩
        · exact hb
        · omega
      refine ⟨⟨by rw [hlen]; omega, fun _ => ⟨by rw [hlen]; omega, by rw [g2, hwf]; omega, by rw [g2, hwf, hlen]; omega⟩, fun q => by omega⟩, ?_⟩
      unfold gF
      rw [if_neg (by omega), if_neg (by omega), if_pos (by omega), g0', g1, g2, hwf, hdr, e0]
      have hun : unF (dataF r.f r.vs) r.c = r.vs := by
        unfold dataF
        rw [if_pos ht, hc]
        exact unF_pack hbits
      rw [hun]
    · have ht : fTop r.f = 65535 := by rw [hf]; decide
      have hdl : (dataF r.f r.vs).length = 2 * r.vs.length := by rw [dataF_length, if_neg (by omega)]
      have hwords : Words r.vs := by
        rcases hv with ⟨ht', _⟩ | ⟨_, hb⟩
        · omega
        · exact hb
      refine ⟨⟨by rw [hlen]; omega, fun q => by omega, fun _ => ⟨by rw [hlen]; omega, by rw [g2, hwf]; omega, by rw [g2, hwf, hlen]; omega⟩⟩, ?_⟩
      unfold gF
      rw [if_neg (by omega), if_neg (by omega), if_neg (by omega), if_pos (by omega), g0', g1, g2, hwf, hdr, e0]
      have hun : rgF (dataF r.f r.vs) r.c = r.vs := by
        unfold dataF
        rw [if_neg (by omega), hc]
        exact rgF_words hwords
      rw [hun]
/-- Bytes that encode a request: the guess is that one. -/
theorem dec_guess {d : List UInt8} (h : decB d = true) : gOk d ∧ gF d = parseF d ∧ (gF d).may = true ∧ encF (gF d) = d := by
  obtain ⟨h1, h2⟩ := decB_iff.1 h
  have h3 := guess_enc h1
  rw [h2] at h3
  exact ⟨h3.1, h3.2, by rw [h3.2]; exact h1, by rw [h3.2]; exact h2⟩
theorem dec_guess_no {d : List UInt8} (h : decB d = false) (h1 : (gF d).may = true) : encF (gF d) ≠ d := fun h2 => by
  have h3 := decB_enc h1
  rw [h2, h] at h3
  cases h3
end Go.Proofs.YtngfaailbkadfaaDoor
