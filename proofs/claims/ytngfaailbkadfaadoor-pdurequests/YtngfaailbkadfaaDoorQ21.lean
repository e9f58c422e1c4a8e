/- yardref7.guess for every row of bytes; the guess of an encoded request is the request. -/
import Derived.Test.YtngfaailbkadfaaDoorQ17
import Derived.Test.YtngfaailbkadfaaDoorQ16
import Derived.Test.YtngfaailbkadfaaDoorAny
import Derived.Test.YtngfaailbkadfaaDoorQ13
namespace Go.Proofs.YtngfaailbkadfaaDoor
open Go.RowKit Go.Extern.Stop Go.Stop Go.Extern

/-- The first byte. -/
def fstN (d : List UInt8) : Nat := (d.getD 0 0).toNat
/-- Is a request guessed at all? -/
def gOk (d : List UInt8) : Prop := 5 ≤ d.length ∧ (fstN d = 15 → 6 ≤ d.length ∧ atN d 3 ≤ 1968 ∧ (atN d 3 + 7) / 8 ≤ (d.length : Int) - 6) ∧ (fstN d = 16 → 6 ≤ d.length ∧ atN d 3 ≤ 123 ∧ 2 * atN d 3 ≤ (d.length : Int) - 6)
instance (d : List UInt8) : Decidable (gOk d) := by unfold gOk; infer_instance
/-- Which one. -/
def gF (d : List UInt8) : Rq :=
  if fstN d = 5 then ⟨(fstN d : Int), atN d 1, 1, [atN d 3 / 32768]⟩
  else if fstN d = 6 then ⟨(fstN d : Int), atN d 1, 1, [atN d 3]⟩
  else if fstN d = 15 then ⟨(fstN d : Int), atN d 1, atN d 3, unF (d.drop 6) (atN d 3)⟩
  else if fstN d = 16 then ⟨(fstN d : Int), atN d 1, atN d 3, rgF (d.drop 6) (atN d 3)⟩
  else ⟨(fstN d : Int), atN d 1, atN d 3, []⟩
theorem guess_yes (v : Value) (d : List UInt8) (w : World) (hv : BytesAt w v d) (hl : d.length ≤ 100000) (hcap : ∀ ao n cap, v = .slice ao n cap → n ≤ cap) (h : gOk d) : Calls Tryd.prog 34 #[v] w (GuessOk w (gF d)) := by
  obtain ⟨h5, h15, h16⟩ := h
  obtain ⟨ao, cap, hve, _⟩ := id hv
  have hc := hcap _ _ _ hve
  unfold gF
  by_cases q5 : fstN d = 5
  · rw [if_pos q5]; exact guess_bit v d w hv hl h5 q5
  · rw [if_neg q5]
    by_cases q6 : fstN d = 6
    · rw [if_pos q6]; exact guess_reg v d w hv hl h5 q6
    · rw [if_neg q6]
      by_cases q15 : fstN d = 15
      · rw [if_pos q15]
        obtain ⟨a1, a2, a3⟩ := h15 q15
        rcases Nat.lt_or_ge 6 d.length with h6 | h6
        · exact guess_bits v d w hv hl h5 q15 h6 hcap a2 a3
        · have h6' : d.length = 6 := by omega
          rcases Nat.lt_or_ge 6 cap with hk | hk
          · exact guess15_sixa v d w hv hl h5 q15 (Lib.hid h6') (fun ao' n' c' e => by
              rw [hve] at e
              simp only [Value.slice.injEq] at e
              omega) a2 a3
          · exact guess15_sixb v d w hv hl h5 q15 (Lib.hid h6') (fun ao' n' c' e => by
              rw [hve] at e
              simp only [Value.slice.injEq] at e
              omega) a2 a3
      · rw [if_neg q15]
        by_cases q16 : fstN d = 16
        · rw [if_pos q16]
          obtain ⟨a1, a2, a3⟩ := h16 q16
          rcases Nat.lt_or_ge 6 d.length with h6 | h6
          · exact guess_regs v d w hv hl h5 q16 h6 hcap a2 a3
          · have h6' : d.length = 6 := by omega
            rcases Nat.lt_or_ge 6 cap with hk | hk
            · exact guess16_sixa v d w hv hl h5 q16 (Lib.hid h6') (fun ao' n' c' e => by
                rw [hve] at e
                simp only [Value.slice.injEq] at e
                omega) a2 a3
            · exact guess16_sixb v d w hv hl h5 q16 (Lib.hid h6') (fun ao' n' c' e => by
                rw [hve] at e
                simp only [Value.slice.injEq] at e
                omega) a2 a3
        · rw [if_neg q16]
          have : fstN d < 5 ∨ (6 < fstN d ∧ fstN d ≠ 15 ∧ fstN d ≠ 16) := by omega
          exact guess_read v d w hv hl h5 this
theorem guess_not (v : Value) (d : List UInt8) (w : World) (hv : BytesAt w v d) (hl : d.length ≤ 100000) (h : ¬ gOk d) : Calls Tryd.prog 34 #[v] w (GuessNo w) := by
  rcases Nat.lt_or_ge d.length 5 with h5 | h5
  · exact guess_short v d w hv h5
  · by_cases q15 : fstN d = 15
    · have hn : ¬ (6 ≤ d.length ∧ atN d 3 ≤ 1968 ∧ (atN d 3 + 7) / 8 ≤ (d.length : Int) - 6) := fun x => h ⟨h5, fun _ => x, fun q => by omega⟩
      rcases Nat.lt_or_ge d.length 6 with h6 | h6
      · exact guess15_no1 v d w hv hl h5 q15 h6
      · by_cases a2 : atN d 3 ≤ 1968
        · exact guess15_no3 v d w hv hl h5 q15 h6 a2 (by
            have : ¬ (atN d 3 + 7) / 8 ≤ (d.length : Int) - 6 := fun x => hn ⟨h6, a2, x⟩
            omega)
        · exact guess15_no2 v d w hv hl h5 q15 h6 (by omega)
    · by_cases q16 : fstN d = 16
      · have hn : ¬ (6 ≤ d.length ∧ atN d 3 ≤ 123 ∧ 2 * atN d 3 ≤ (d.length : Int) - 6) := fun x => h ⟨h5, fun q => by omega, fun _ => x⟩
        rcases Nat.lt_or_ge d.length 6 with h6 | h6
        · exact guess16_no1 v d w hv hl h5 q16 h6
        · by_cases a2 : atN d 3 ≤ 123
          · exact guess16_no3 v d w hv hl h5 q16 h6 a2 (by
              have : ¬ 2 * atN d 3 ≤ (d.length : Int) - 6 := fun x => hn ⟨h6, a2, x⟩
              omega)
          · exact guess16_no2 v d w hv hl h5 q16 h6 (by omega)
      · exact absurd ⟨h5, fun q => absurd q q15, fun q => absurd q q16⟩ h

/-- The guess of an encoded request. -/
theorem guess_enc {r : Rq} (h : r.may = true) : gOk (encF r) ∧ gF (encF r) = r := by
  obtain ⟨b0, b1, b2, b3, b4, hh, e0, e1, e2⟩ := head_bytes h
  have hd : ∀ m : List UInt8, ((headF r ++ m).getD 0 0).toNat = b0.toNat ∧ atN (headF r ++ m) 1 = r.s ∧ atN (headF r ++ m) 3 = wordF r := fun m => by
    rw [hh]
    refine ⟨by simp, ?_, ?_⟩
    · unfold atN; simp; omega
    · unfold atN; simp; omega
  have hlen : ∀ m : List UInt8, (headF r ++ m).length = 5 + m.length := fun m => by rw [List.length_append, headF_length]
  have hk := kind_of h
  have hw := word_ok h
  unfold encF
  cases hk with
  | read hf hc hc2 hs hv =>
    have hwf : wordF r = r.c := by unfold wordF; rw [if_neg (by omega), if_neg (by omega)]
    rw [if_neg (by omega)]
    obtain ⟨g0, g1, g2⟩ := hd []
    have g0' : fstN (headF r ++ []) = b0.toNat := g0
    refine ⟨⟨by rw [hlen]; omega, fun q => by omega, fun q => by omega⟩, ?_⟩
    unfold gF
    rw [if_neg (by omega), if_neg (by omega), if_neg (by omega), if_neg (by omega), g0', g1, g2, e0, hwf, ← hv]
  | bit hf hc hs v hv hb =>
    have hwf : wordF r = 65280 * v := by unfold wordF; rw [if_pos hf, hv]; rfl
    rw [if_neg (by omega)]
    obtain ⟨g0, g1, g2⟩ := hd []
    have g0' : fstN (headF r ++ []) = b0.toNat := g0
    refine ⟨⟨by rw [hlen]; omega, fun q => by omega, fun q => by omega⟩, ?_⟩
    unfold gF
    have e : (65280 * v) / 32768 = v := by rcases hb with rfl | rfl <;> decide
    rw [if_pos (by omega), g0', g1, g2, e0, hwf, e, ← hv, ← hc]
  | reg hf hc hs v hv hb =>
    have hwf : wordF r = v := by unfold wordF; rw [if_neg (by omega), if_pos hf, hv]; rfl
    rw [if_neg (by omega)]
    obtain ⟨g0, g1, g2⟩ := hd []
    have g0' : fstN (headF r ++ []) = b0.toNat := g0
    refine ⟨⟨by rw [hlen]; omega, fun q => by omega, fun q => by omega⟩, ?_⟩
    unfold gF
    rw [if_neg (by omega), if_pos (by omega), g0', g1, g2, e0, hwf, ← hv, ← hc]
  | many hf hc hc1 hc2 hs hv hd2 =>
    have hwf : wordF r = r.c := by unfold wordF; rw [if_neg (by omega), if_neg (by omega)]
    rw [if_pos hf]
    obtain ⟨g0, g1, g2⟩ := hd (putF r.f r.vs)
    have g0' : fstN (headF r ++ putF r.f r.vs) = b0.toNat := g0
    have hpl : (putF r.f r.vs).length = 1 + (dataF r.f r.vs).length := by simp [putF, be_length]
    have hdr : (headF r ++ putF r.f r.vs).drop 6 = dataF r.f r.vs := by
      have h6 : (headF r ++ be 1 ((dataF r.f r.vs).length : Int)).length = 6 := by simp [headF_length, be_length]
      unfold putF
      rw [← List.append_assoc, ← h6, List.drop_left]
    have hfr : (b0.toNat : Int) = r.f := e0
    rcases hf with hf | hf
    · have ht : fTop r.f = 1 := by rw [hf]; decide
      have hdl : (dataF r.f r.vs).length = (r.vs.length + 7) / 8 := by rw [dataF_length, if_pos ht]
      have hbits : Bits r.vs := by
        rcases hv with ⟨_, hb⟩ | ⟨ht', _⟩
        · exact hb
        · omega
      refine ⟨⟨by rw [hlen]; omega, fun _ => ⟨by rw [hlen]; omega, by rw [g2, hwf]; omega, by rw [g2, hwf, hlen]; omega⟩, fun q => by omega⟩, ?_⟩
      unfold gF
      rw [if_neg (by omega), if_neg (by omega), if_pos (by omega), g0', g1, g2, hwf, hdr, e0]
      have hun : unF (dataF r.f r.vs) r.c = r.vs := by
        unfold dataF
        rw [if_pos ht, hc]
        exact unF_pack hbits
      rw [hun]
    · have ht : fTop r.f = 65535 := by rw [hf]; decide
      have hdl : (dataF r.f r.vs).length = 2 * r.vs.length := by rw [dataF_length, if_neg (by omega)]
      have hwords : Words r.vs := by
        rcases hv with ⟨ht', _⟩ | ⟨_, hb⟩
        · omega
        · exact hb
      refine ⟨⟨by rw [hlen]; omega, fun q => by omega, fun _ => ⟨by rw [hlen]; omega, by rw [g2, hwf]; omega, by rw [g2, hwf, hlen]; omega⟩⟩, ?_⟩
      unfold gF
      rw [if_neg (by omega), if_neg (by omega), if_neg (by omega), if_pos (by omega), g0', g1, g2, hwf, hdr, e0]
      have hun : rgF (dataF r.f r.vs) r.c = r.vs := by
        unfold dataF
        rw [if_neg (by omega), hc]
        exact rgF_words hwords
      rw [hun]
/-- Bytes that encode a request: the guess is that one. -/
theorem dec_guess {d : List UInt8} (h : decB d = true) : gOk d ∧ gF d = parseF d ∧ (gF d).may = true ∧ encF (gF d) = d := by
  obtain ⟨h1, h2⟩ := decB_iff.1 h
  have h3 := guess_enc h1
  rw [h2] at h3
  exact ⟨h3.1, h3.2, by rw [h3.2]; exact h1, by rw [h3.2]; exact h2⟩
theorem dec_guess_no {d : List UInt8} (h : decB d = false) (h1 : (gF d).may = true) : encF (gF d) ≠ d := fun h2 => by
  have h3 := decB_enc h1
  rw [h2, h] at h3
  cases h3
end Go.Proofs.YtngfaailbkadfaaDoor
/- yardref7.Decode. -/
namespace Go.Proofs.YtngfaailbkadfaaDoor
open Go.RowKit Go.Extern.Stop Go.Stop Go.Extern

/-- Decode's two results in their boxes. -/
structure DB (w W : World) : Prop where
  q : BoxQ W w.heap.size 0 0 0 (.slice none 0 0)
  e : BoxE W (w.heap.size + 1) 0 (.slice none 0 0)
  below : Below w.heap.size w W
theorem DB.on {w W W' : World} (h : DB w W) (hb : Below W.heap.size W W') : DB w W' := ⟨h.q.on hb, h.e.on hb, h.below.trans (hb.mono h.below.size)⟩
theorem db_new (w : World) : DB w ((w.alloc (.cells #[.int .i64 0, .int .i64 0, .int .i64 0, .slice none 0 0] 38)).alloc (.cells #[.int .i64 0, .slice none 0 0] 35)) := by
  have h : (w.alloc (.cells #[.int .i64 0, .int .i64 0, .int .i64 0, .slice none 0 0] 38)).heap.size = w.heap.size + 1 := by simp
  refine ⟨?_, ?_, two_belowW _ _ _⟩
  · have h1 : BoxQ (w.alloc (.cells #[.int .i64 0, .int .i64 0, .int .i64 0, .slice none 0 0] 38)) w.heap.size 0 0 0 (.slice none 0 0) := heap_alloc_new w _
    exact h1.on (below_new _ _)
  · rw [← h]; exact heap_alloc_new _ _
/-- What stands when both results are written. -/
def dfin (W : World) (k : Nat) (f s c : Int) (V : Value) (ec : Int) (ev : Value) : World := fin2 (fin4 W k f s c V) (k + 1) ec ev
theorem dfin_box {w W : World} (h : DB w W) (f s c : Int) (V : Value) (ec : Int) (ev : Value) : BoxQ (dfin W w.heap.size f s c V ec ev) w.heap.size f s c V ∧ BoxE (dfin W w.heap.size f s c V ec ev) (w.heap.size + 1) ec ev ∧ Below w.heap.size w (dfin W w.heap.size f s c V ec ev) := by
  have h1 := fin4q_box h.q f s c V
  have h2 : BoxE (fin4 W w.heap.size f s c V) (w.heap.size + 1) 0 (.slice none 0 0) := ((fin4_off W w.heap.size f s c V).block (w.heap.size + 1) (lt_heap h.e) (by omega)).trans h.e
  refine ⟨((fin2_off _ (w.heap.size + 1) ec ev).block w.heap.size (lt_heap h1) (by omega)).trans h1, fin2_box h2 ec ev, ?_⟩
  exact fin2_below (fin4q_below h.below (Nat.le_refl _) f s c V) _ (by omega) _ _
theorem dfin_off (W : World) (k : Nat) (f s c : Int) (V : Value) (ec : Int) (ev : Value) : Off (fun j => j = k ∨ j = k + 1) W (dfin W k f s c V ec ev) :=
  ((fin4_off W k f s c V).mono fun _ _ e => .inl e).trans ((fin2_off _ (k + 1) ec ev).mono fun _ _ e => .inr e)
def zQ : Value := .agg #[.int .i64 0, .int .i64 0, .int .i64 0, .slice none 0 0]
/-- Decode refuses. -/
def RDecNo (w : World) (x c : Int) (e : Ending) (w' : World) : Prop := ∃ g : Nat, e = .returned (.tuple #[zQ, .agg #[.int .i64 c, .slice (some ⟨g, 0, none⟩) 1 1]]) ∧ StepsOwn w' (.slice (some ⟨g, 0, none⟩) 1 1) [(sPdu, x)] ∧ Below w.heap.size w w'
def RDecOk (w : World) (q : Rq) (e : Ending) (w' : World) : Prop := ∃ u, e = .returned (.tuple #[q.val u, e0]) ∧ w'.ownsRow w.heap.size 3 1 u q.vs.length (icells q.vs) ∧ Below w.heap.size w w'
/-- Behind At: the boxes stand, and the error's path. -/
def DE (w wa : World) (x : Int) (g : Nat) : Prop := DB w wa ∧ StepsOwn wa (.slice (some ⟨g, 0, none⟩) 1 1) [(sPdu, x)] ∧ g ≠ w.heap.size ∧ g ≠ w.heap.size + 1
theorem mk_dec (x c : Int) (w w0 : World) (h : DB w w0) : Calls Tryd.prog 30 #[.string sPdu, .int .i64 x, .int .i64 c] w0 fun e wa => ∃ g : Nat, e = .returned (.agg #[.int .i64 c, .slice (some ⟨g, 0, none⟩) 1 1]) ∧ Hid (DE w wa x g) := by
  refine (mk_any sPdu x c w0).mono ?_
  rintro e wa ⟨⟨g, rfl, hs, hg⟩, hb⟩
  have h1 := lt_heap h.q
  have h2 := lt_heap h.e
  exact ⟨g, rfl, Lib.hid ⟨h.on hb, hs, by omega, by omega⟩⟩
theorem steps_off2 {w w' : World} {g k : Nat} {x : ByteArray × Int} (h : StepsOwn w (.slice (some ⟨g, 0, none⟩) 1 1) [x]) (ho : Off (fun j => j = k ∨ j = k + 1) w w') (h1 : g ≠ k) (h2 : g ≠ k + 1) : StepsOwn w' (.slice (some ⟨g, 0, none⟩) 1 1) [x] := by
  obtain ⟨ao, cap, hv, h⟩ := h
  refine ⟨ao, cap, hv, fun i hi => ?_⟩
  obtain ⟨g', ha, hlt, h0, h1'⟩ := h i hi
  simp only [Value.slice.injEq] at hv
  obtain ⟨e1, _, _⟩ := hv
  rw [ha] at e1
  obtain rfl : g = g' := by simpa using e1
  have hb : w'.heap[g]? = w.heap[g]? := ho.block g hlt (by omega)
  have hc : ∀ o, w'.cell? ⟨g, o, none⟩ = w.cell? ⟨g, o, none⟩ := fun o => by simp only [World.cell?, hb]
  exact ⟨g, ha, Nat.lt_of_lt_of_le hlt ho.size, (hc _).trans h0, (hc _).trans h1'⟩
theorem de_end {w wa : World} {x c : Int} {g : Nat} (h : DE w wa x g) : (BoxQ (dfin wa w.heap.size 0 0 0 (.slice none 0 0) c (.slice (some ⟨g, 0, none⟩) 1 1)) w.heap.size 0 0 0 (.slice none 0 0) ∧ BoxE (dfin wa w.heap.size 0 0 0 (.slice none 0 0) c (.slice (some ⟨g, 0, none⟩) 1 1)) (w.heap.size + 1) c (.slice (some ⟨g, 0, none⟩) 1 1)) ∧ RDecNo w x c (.returned (.tuple #[zQ, .agg #[.int .i64 c, .slice (some ⟨g, 0, none⟩) 1 1]])) (dfin wa w.heap.size 0 0 0 (.slice none 0 0) c (.slice (some ⟨g, 0, none⟩) 1 1)) := by
  obtain ⟨h1, h2, h3⟩ := dfin_box h.1 0 0 0 (.slice none 0 0) c (.slice (some ⟨g, 0, none⟩) 1 1)
  exact ⟨⟨h1, h2⟩, g, rfl, steps_off2 h.2.1 (dfin_off _ _ _ _ _ _ _ _) h.2.2.1 h.2.2.2, h3⟩
theorem two_boxes {w W : World} (h : DB w W) : (∀ o, W.frozen? ⟨w.heap.size, o, none⟩ = false) ∧ ∀ o, W.frozen? ⟨w.heap.size + 1, o, none⟩ = false := ⟨fun _ => frozen_of_row _ _ _ _ _ h.q, fun _ => frozen_of_row _ _ _ _ _ h.e⟩

set_option maxRecDepth 100000 in
set_option maxHeartbeats 4000000 in
theorem rdec_nil (v : Value) (w : World) (hv : BytesAt w v []) : Calls Tryd.prog 11 #[v] w (RDecNo w 0 2) := by
  obtain ⟨wx, hwx⟩ : ∃ wx, wx = (w.alloc (.cells #[.int .i64 0, .int .i64 0, .int .i64 0, .slice none 0 0] 38)).alloc (.cells #[.int .i64 0, .slice none 0 0] 35) := ⟨_, rfl⟩
  have D0 : Hid (DB w wx) := Lib.hid (by rw [hwx]; exact db_new w)
  obtain ⟨ao, cap, rfl, _⟩ := hv
  go_enter Tryd.func11, Tryd.ntmps11
  go_wp2_with fail
  rw [← hwx]
  clear hwx
  refine (mk_dec 0 2 w _ D0.out).mono ?_
  rintro e wa ⟨g, rfl, HA⟩
  obtain ⟨b0, b1, b2, b3⟩ := HA.out.1.q.cells
  obtain ⟨k0, k1, g0, g1⟩ := HA.out.1.e.cells
  have hfz := (two_boxes HA.out.1).1
  have z0 := hfz 0
  have z1 := hfz 1
  have z2 := hfz 2
  have z3 := hfz 3
  clear hfz
  have HF := Lib.hid (de_end (c := 2) HA.out)
  unfold dfin fin2 fin4 at HF
  go_wp2
  generalize (World.setCell (World.setCell (World.setCell (World.setCell (World.setCell (World.setCell wa _ _) _ _) _ _) _ _) _ _) _ _) = W at HF ⊢
  obtain ⟨d0, d1, d2, d3⟩ := HF.out.1.1.cells
  obtain ⟨d4, d5, _, _⟩ := HF.out.1.2.cells
  refine bodyPost_ret (v := .tuple #[zQ, .agg #[.int .i64 2, .slice (some ⟨g, 0, none⟩) 1 1]]) ?_ rfl HF.out.2
  simp [results, Tryd.results11, go_sem, d0, d1, d2, d3, d4, d5, zQ]

set_option maxRecDepth 100000 in
set_option maxHeartbeats 4000000 in
theorem rdec_kind (v : Value) (y : UInt8) (l : List UInt8) (w : World) (hv : BytesAt w v (y :: l)) (hk : isFn (y.toNat : Int) = false) : Calls Tryd.prog 11 #[v] w (RDecNo w (y.toNat : Int) 6) := by
  obtain ⟨wx, hwx⟩ : ∃ wx, wx = (w.alloc (.cells #[.int .i64 0, .int .i64 0, .int .i64 0, .slice none 0 0] 38)).alloc (.cells #[.int .i64 0, .slice none 0 0] 35) := ⟨_, rfl⟩
  have D0 : Hid (DB w wx) := Lib.hid (by rw [hwx]; exact db_new w)
  obtain ⟨bb, off, cap, rfl, p0⟩ := bytesAt_cons hv
  have q0 : ((w.alloc (.cells #[.int .i64 0, .int .i64 0, .int .i64 0, .slice none 0 0] 38)).alloc (.cells #[.int .i64 0, .slice none 0 0] 35)).cell? ⟨bb, off, none⟩ = some (.int .u8 (y.toNat : Int)) := by
    rw [← hwx]
    exact (D0.out.below.cell (p := ⟨bb, off, none⟩) (lt_cell p0)).trans p0
  have q1 : wx.cell? ⟨bb, off, none⟩ = some (.int .u8 (y.toNat : Int)) := by rw [hwx]; exact q0
  have hy := byte_lt y
  have HI := Lib.hid hk
  have hcv : IntKind.i64.wrap (y.toNat : Int) = (y.toNat : Int) := by rw [IntKind.wrap_i64]; omega
  have hl0 : ((l.length : Int) + 1 == 0) = false := beq_eq_false_iff_ne.2 (by omega)
  clear hv hk p0
  go_enter Tryd.func11, Tryd.ntmps11
  go_wp2_with fail
  rw [← hwx]
  clear hwx q0
  refine (known_any _ wx).mono ?_
  rintro e w1 ⟨rfl, rfl⟩
  rw [HI.out]
  go_wp2_with fail
  refine (mk_dec (y.toNat : Int) 6 w _ D0.out).mono ?_
  rintro e wa ⟨g, rfl, HA⟩
  obtain ⟨b0, b1, b2, b3⟩ := HA.out.1.q.cells
  obtain ⟨k0, k1, g0, g1⟩ := HA.out.1.e.cells
  have hfz := (two_boxes HA.out.1).1
  have z0 := hfz 0
  have z1 := hfz 1
  have z2 := hfz 2
  have z3 := hfz 3
  clear hfz
  have HF := Lib.hid (de_end (c := 6) HA.out)
  unfold dfin fin2 fin4 at HF
  go_wp2
  generalize (World.setCell (World.setCell (World.setCell (World.setCell (World.setCell (World.setCell wa _ _) _ _) _ _) _ _) _ _) _ _) = W at HF ⊢
  obtain ⟨d0, d1, d2, d3⟩ := HF.out.1.1.cells
  obtain ⟨d4, d5, _, _⟩ := HF.out.1.2.cells
  refine bodyPost_ret (v := .tuple #[zQ, .agg #[.int .i64 6, .slice (some ⟨g, 0, none⟩) 1 1]]) ?_ rfl HF.out.2
  simp [results, Tryd.results11, go_sem, d0, d1, d2, d3, d4, d5, zQ]

set_option maxRecDepth 100000 in
set_option maxHeartbeats 8000000 in
theorem rdec_form1 (v : Value) (y : UInt8) (l : List UInt8) (w : World) (hv : BytesAt w v (y :: l)) (hl : (y :: l).length ≤ 3000) (hcap : ∀ ao n cap, v = .slice ao n cap → n ≤ cap) (hk : isFn (y.toNat : Int) = true) (hg : ¬ gOk (y :: l)) : Calls Tryd.prog 11 #[v] w (RDecNo w (y.toNat : Int) 4) := by
  obtain ⟨wx, hwx⟩ : ∃ wx, wx = (w.alloc (.cells #[.int .i64 0, .int .i64 0, .int .i64 0, .slice none 0 0] 38)).alloc (.cells #[.int .i64 0, .slice none 0 0] 35) := ⟨_, rfl⟩
  have D0 : Hid (DB w wx) := Lib.hid (by rw [hwx]; exact db_new w)
  have V0 := Lib.hid (hv.on D0.out.below)
  obtain ⟨bb, off, cap, rfl, p0⟩ := bytesAt_cons hv
  have q0 : ((w.alloc (.cells #[.int .i64 0, .int .i64 0, .int .i64 0, .slice none 0 0] 38)).alloc (.cells #[.int .i64 0, .slice none 0 0] 35)).cell? ⟨bb, off, none⟩ = some (.int .u8 (y.toNat : Int)) := by
    rw [← hwx]
    exact (D0.out.below.cell (p := ⟨bb, off, none⟩) (lt_cell p0)).trans p0
  have hy := byte_lt y
  have HI := Lib.hid hk
  have HCP := Lib.hid hcap
  have hcv : IntKind.i64.wrap (y.toNat : Int) = (y.toNat : Int) := by rw [IntKind.wrap_i64]; omega
  have hl0 : ((l.length : Int) + 1 == 0) = false := beq_eq_false_iff_ne.2 (by omega)
  have HL : Hid ((y :: l).length ≤ 3000) := Lib.hid hl
  have HP0 := Lib.hid p0
  have HG := Lib.hid hg
  clear hg
  clear hv hk p0 hl hcap
  go_enter Tryd.func11, Tryd.ntmps11
  go_wp2_with fail
  rw [← hwx]
  clear hwx q0
  refine (known_any _ wx).mono ?_
  rintro e w1 ⟨rfl, rfl⟩
  rw [HI.out]
  go_wp2_with fail
  refine (guess_not _ (y :: l) wx V0.out (by have := HL.out; omega) HG.out).mono ?_
  rintro e w2 ⟨rfl, hb⟩
  have D2 := Lib.hid ((D0.out.on hb).on (below_new w2 (.cells #[.int .i64 0, .int .i64 0, .int .i64 0, .slice none 0 0] 38)))
  have q2 : (w2.alloc (.cells #[.int .i64 0, .int .i64 0, .int .i64 0, .slice none 0 0] 38)).cell? ⟨bb, off, none⟩ = some (.int .u8 (y.toNat : Int)) := (D2.out.below.cell (p := ⟨bb, off, none⟩) (lt_cell HP0.out)).trans HP0.out
  clear hb
  go_wp2_with fail
  generalize w2.alloc (.cells #[.int .i64 0, .int .i64 0, .int .i64 0, .slice none 0 0] 38) = w3 at *
  refine (mk_dec (y.toNat : Int) 4 w _ D2.out).mono ?_
  rintro e wa ⟨g, rfl, HA⟩
  obtain ⟨b0, b1, b2, b3⟩ := HA.out.1.q.cells
  obtain ⟨k0, k1, g0, g1⟩ := HA.out.1.e.cells
  have hfz := (two_boxes HA.out.1).1
  have z0 := hfz 0
  have z1 := hfz 1
  have z2 := hfz 2
  have z3 := hfz 3
  clear hfz
  have HF := Lib.hid (de_end (c := 4) HA.out)
  unfold dfin fin2 fin4 at HF
  go_wp2
  generalize (World.setCell (World.setCell (World.setCell (World.setCell (World.setCell (World.setCell wa _ _) _ _) _ _) _ _) _ _) _ _) = W at HF ⊢
  obtain ⟨d0, d1, d2, d3⟩ := HF.out.1.1.cells
  obtain ⟨d4, d5, _, _⟩ := HF.out.1.2.cells
  refine bodyPost_ret (v := .tuple #[zQ, .agg #[.int .i64 4, .slice (some ⟨g, 0, none⟩) 1 1]]) ?_ rfl HF.out.2
  simp [results, Tryd.results11, go_sem, d0, d1, d2, d3, d4, d5, zQ]

/-- How many values a guess has. -/
theorem gF_len (d : List UInt8) : (gF d).vs.length ≤ 100000 := by
  have hb := atN_bounds d 3
  unfold gF
  repeat' split
  · simp
  · simp
  · simp only [unF_length]; omega
  · simp only [rgF_length]; omega
  · simp

set_option maxRecDepth 100000 in
set_option maxHeartbeats 8000000 in
theorem rdec_form2 (v : Value) (y : UInt8) (l : List UInt8) (w : World) (hv : BytesAt w v (y :: l)) (hl : (y :: l).length ≤ 3000) (hcap : ∀ ao n cap, v = .slice ao n cap → n ≤ cap) (hk : isFn (y.toNat : Int) = true) (hg : gOk (y :: l)) (hm : (gF (y :: l)).may = false) : Calls Tryd.prog 11 #[v] w (RDecNo w (y.toNat : Int) 4) := by
  obtain ⟨wx, hwx⟩ : ∃ wx, wx = (w.alloc (.cells #[.int .i64 0, .int .i64 0, .int .i64 0, .slice none 0 0] 38)).alloc (.cells #[.int .i64 0, .slice none 0 0] 35) := ⟨_, rfl⟩
  have D0 : Hid (DB w wx) := Lib.hid (by rw [hwx]; exact db_new w)
  have V0 := Lib.hid (hv.on D0.out.below)
  obtain ⟨bb, off, cap, rfl, p0⟩ := bytesAt_cons hv
  have q0 : ((w.alloc (.cells #[.int .i64 0, .int .i64 0, .int .i64 0, .slice none 0 0] 38)).alloc (.cells #[.int .i64 0, .slice none 0 0] 35)).cell? ⟨bb, off, none⟩ = some (.int .u8 (y.toNat : Int)) := by
    rw [← hwx]
    exact (D0.out.below.cell (p := ⟨bb, off, none⟩) (lt_cell p0)).trans p0
  have hy := byte_lt y
  have HI := Lib.hid hk
  have HCP := Lib.hid hcap
  have hcv : IntKind.i64.wrap (y.toNat : Int) = (y.toNat : Int) := by rw [IntKind.wrap_i64]; omega
  have hl0 : ((l.length : Int) + 1 == 0) = false := beq_eq_false_iff_ne.2 (by omega)
  have HL : Hid ((y :: l).length ≤ 3000) := Lib.hid hl
  have HP0 := Lib.hid p0
  have HG := Lib.hid hg
  have HMM : Hid (mayB (gF (y :: l)).f (gF (y :: l)).s (gF (y :: l)).c (gF (y :: l)).vs = false) := Lib.hid hm
  have HVL : Hid ((gF (y :: l)).vs.length ≤ 100000) := Lib.hid (gF_len _)
  clear hg hm
  clear hv hk p0 hl hcap
  go_enter Tryd.func11, Tryd.ntmps11
  go_wp2_with fail
  rw [← hwx]
  clear hwx q0
  refine (known_any _ wx).mono ?_
  rintro e w1 ⟨rfl, rfl⟩
  rw [HI.out]
  go_wp2_with fail
  refine (guess_yes _ (y :: l) wx V0.out (by have := HL.out; omega) HCP.out HG.out).mono ?_
  rintro e w2 ⟨u, rfl, hu, hb⟩
  generalize gF (y :: l) = r at *
  obtain ⟨f, s, c, vs⟩ := r
  unfold Rq.val
  dsimp only at hu
  obtain ⟨ua, uc, rfl⟩ := row_slice hu
  have hnb := below_new w2 (.cells #[.int .i64 f, .int .i64 s, .int .i64 c, .slice ua vs.length uc] 38)
  have D3 := Lib.hid ((D0.out.on hb).on hnb)
  have U3 := Lib.hid (ownsRow_off hu (Off.of_below (fun _ => False) hnb) (fun _ _ f => f))
  have Q3 : Hid (BoxQ (w2.alloc (.cells #[.int .i64 f, .int .i64 s, .int .i64 c, .slice ua vs.length uc] 38)) w2.heap.size f s c (.slice ua vs.length uc)) := Lib.hid (heap_alloc_new w2 _)
  have HSZ : Hid (w.heap.size + 1 < wx.heap.size ∧ wx.heap.size ≤ w2.heap.size) := Lib.hid ⟨lt_heap D0.out.e, hb.size⟩
  clear hu hb hnb
  obtain ⟨c0, c1, c2, c3⟩ := Q3.out.cells
  go_wp2_with fail
  generalize w2.alloc (.cells #[.int .i64 f, .int .i64 s, .int .i64 c, .slice ua vs.length uc] 38) = w3 at *
  refine (rmay_any f s c _ vs w3 (intsAt_own U3.out) HVL.out).mono ?_
  rintro e w4 ⟨rfl, hb⟩
  have D4 := Lib.hid (D3.out.on hb)
  have U4 := Lib.hid (ownsRow_off U3.out (Off.of_below (fun _ => False) hb) (fun _ _ f => f))
  have Q4 := Lib.hid (Q3.out.on hb)
  clear hb c0 c1 c2 c3
  rw [HMM.out]
  have q4 : w4.cell? ⟨bb, off, none⟩ = some (.int .u8 (y.toNat : Int)) := (D4.out.below.cell (p := ⟨bb, off, none⟩) (lt_cell HP0.out)).trans HP0.out
  go_wp2_with fail
  refine (mk_dec (y.toNat : Int) 4 w _ D4.out).mono ?_
  rintro e wa ⟨g, rfl, HA⟩
  obtain ⟨b0, b1, b2, b3⟩ := HA.out.1.q.cells
  obtain ⟨k0, k1, g0, g1⟩ := HA.out.1.e.cells
  have hfz := (two_boxes HA.out.1).1
  have z0 := hfz 0
  have z1 := hfz 1
  have z2 := hfz 2
  have z3 := hfz 3
  clear hfz
  have HF := Lib.hid (de_end (c := 4) HA.out)
  unfold dfin fin2 fin4 at HF
  go_wp2
  generalize (World.setCell (World.setCell (World.setCell (World.setCell (World.setCell (World.setCell wa _ _) _ _) _ _) _ _) _ _) _ _) = W at HF ⊢
  obtain ⟨d0, d1, d2, d3⟩ := HF.out.1.1.cells
  obtain ⟨d4, d5, _, _⟩ := HF.out.1.2.cells
  refine bodyPost_ret (v := .tuple #[zQ, .agg #[.int .i64 4, .slice (some ⟨g, 0, none⟩) 1 1]]) ?_ rfl HF.out.2
  simp [results, Tryd.results11, go_sem, d0, d1, d2, d3, d4, d5, zQ]

set_option maxRecDepth 100000 in
set_option maxHeartbeats 8000000 in
theorem rdec_form3 (v : Value) (y : UInt8) (l : List UInt8) (w : World) (hv : BytesAt w v (y :: l)) (hl : (y :: l).length ≤ 3000) (hcap : ∀ ao n cap, v = .slice ao n cap → n ≤ cap) (hk : isFn (y.toNat : Int) = true) (hg : gOk (y :: l)) (hm : (gF (y :: l)).may = true) (he : (encF (gF (y :: l)) == y :: l) = false) : Calls Tryd.prog 11 #[v] w (RDecNo w (y.toNat : Int) 4) := by
  obtain ⟨wx, hwx⟩ : ∃ wx, wx = (w.alloc (.cells #[.int .i64 0, .int .i64 0, .int .i64 0, .slice none 0 0] 38)).alloc (.cells #[.int .i64 0, .slice none 0 0] 35) := ⟨_, rfl⟩
  have D0 : Hid (DB w wx) := Lib.hid (by rw [hwx]; exact db_new w)
  have V0 := Lib.hid (hv.on D0.out.below)
  obtain ⟨bb, off, cap, rfl, p0⟩ := bytesAt_cons hv
  have q0 : ((w.alloc (.cells #[.int .i64 0, .int .i64 0, .int .i64 0, .slice none 0 0] 38)).alloc (.cells #[.int .i64 0, .slice none 0 0] 35)).cell? ⟨bb, off, none⟩ = some (.int .u8 (y.toNat : Int)) := by
    rw [← hwx]
    exact (D0.out.below.cell (p := ⟨bb, off, none⟩) (lt_cell p0)).trans p0
  have hy := byte_lt y
  have HI := Lib.hid hk
  have HCP := Lib.hid hcap
  have hcv : IntKind.i64.wrap (y.toNat : Int) = (y.toNat : Int) := by rw [IntKind.wrap_i64]; omega
  have hl0 : ((l.length : Int) + 1 == 0) = false := beq_eq_false_iff_ne.2 (by omega)
  have HL : Hid ((y :: l).length ≤ 3000) := Lib.hid hl
  have HP0 := Lib.hid p0
  have HG := Lib.hid hg
  have HMM : Hid (mayB (gF (y :: l)).f (gF (y :: l)).s (gF (y :: l)).c (gF (y :: l)).vs = true) := Lib.hid hm
  have HVL : Hid ((gF (y :: l)).vs.length ≤ 100000) := Lib.hid (gF_len _)
  have HB : Hid (∀ (v : Value) (W : World), IntsAt W v (gF (y :: l)).vs → Calls Tryd.prog 31 #[.agg #[.int .i64 (gF (y :: l)).f, .int .i64 (gF (y :: l)).s, .int .i64 (gF (y :: l)).c, v]] W (CopyIs W (encF (gF (y :: l))))) := Lib.hid (fun v W h => body_any _ v W h hm (by
    cases kind_of hm with
    | read hf hc hc2 hs hv => rw [hv]; simp
    | bit hf hc hs x hv hb => rw [hv]; simp
    | reg hf hc hs x hv hb => rw [hv]; simp
    | many hf hc hc1 hc2 hs hv hd => omega))
  generalize encF (gF (y :: l)) = out at *
  have HVV := Lib.hid hv
  have HEQ := Lib.hid he
  clear hg hm he
  clear hv hk p0 hl hcap
  go_enter Tryd.func11, Tryd.ntmps11
  go_wp2_with fail
  rw [← hwx]
  clear hwx q0
  refine (known_any _ wx).mono ?_
  rintro e w1 ⟨rfl, rfl⟩
  rw [HI.out]
  go_wp2_with fail
  refine (guess_yes _ (y :: l) wx V0.out (by have := HL.out; omega) HCP.out HG.out).mono ?_
  rintro e w2 ⟨u, rfl, hu, hb⟩
  generalize gF (y :: l) = r at *
  obtain ⟨f, s, c, vs⟩ := r
  unfold Rq.val
  dsimp only at hu
  obtain ⟨ua, uc, rfl⟩ := row_slice hu
  have hnb := below_new w2 (.cells #[.int .i64 f, .int .i64 s, .int .i64 c, .slice ua vs.length uc] 38)
  have D3 := Lib.hid ((D0.out.on hb).on hnb)
  have U3 := Lib.hid (ownsRow_off hu (Off.of_below (fun _ => False) hnb) (fun _ _ f => f))
  have Q3 : Hid (BoxQ (w2.alloc (.cells #[.int .i64 f, .int .i64 s, .int .i64 c, .slice ua vs.length uc] 38)) w2.heap.size f s c (.slice ua vs.length uc)) := Lib.hid (heap_alloc_new w2 _)
  have HSZ : Hid (w.heap.size + 1 < wx.heap.size ∧ wx.heap.size ≤ w2.heap.size) := Lib.hid ⟨lt_heap D0.out.e, hb.size⟩
  clear hu hb hnb
  obtain ⟨c0, c1, c2, c3⟩ := Q3.out.cells
  go_wp2_with fail
  generalize w2.alloc (.cells #[.int .i64 f, .int .i64 s, .int .i64 c, .slice ua vs.length uc] 38) = w3 at *
  refine (rmay_any f s c _ vs w3 (intsAt_own U3.out) HVL.out).mono ?_
  rintro e w4 ⟨rfl, hb⟩
  have D4 := Lib.hid (D3.out.on hb)
  have U4 := Lib.hid (ownsRow_off U3.out (Off.of_below (fun _ => False) hb) (fun _ _ f => f))
  have Q4 := Lib.hid (Q3.out.on hb)
  clear hb c0 c1 c2 c3
  rw [HMM.out]
  obtain ⟨c0, c1, c2, c3⟩ := Q4.out.cells
  go_wp2_with fail
  refine (HB.out (.slice ua vs.length uc) w4 (intsAt_own U4.out)).mono ?_
  rintro e w5 ⟨ve, rfl, ho, hb⟩
  have D5 := Lib.hid (D4.out.on hb)
  have Q5 := Lib.hid (Q4.out.on hb)
  have U5 := Lib.hid (ownsRow_off U4.out (Off.of_below (fun _ => False) hb) (fun _ _ f => f))
  have O5 := Lib.hid (bytesAt_own ho)
  obtain ⟨ea, ec, rfl⟩ := row_slice ho
  clear hb ho c0 c1 c2 c3
  go_wp2_with fail
  refine (alike_any _ _ out (y :: l) w5 O5.out (HVV.out.on D5.out.below)).mono ?_
  rintro e w6 ⟨rfl, rfl⟩
  rw [HEQ.out]
  have q5 : w5.cell? ⟨bb, off, none⟩ = some (.int .u8 (y.toNat : Int)) := (D5.out.below.cell (p := ⟨bb, off, none⟩) (lt_cell HP0.out)).trans HP0.out
  go_wp2_with fail
  refine (mk_dec (y.toNat : Int) 4 w _ D5.out).mono ?_
  rintro e wa ⟨g, rfl, HA⟩
  obtain ⟨b0, b1, b2, b3⟩ := HA.out.1.q.cells
  obtain ⟨k0, k1, g0, g1⟩ := HA.out.1.e.cells
  have hfz := (two_boxes HA.out.1).1
  have z0 := hfz 0
  have z1 := hfz 1
  have z2 := hfz 2
  have z3 := hfz 3
  clear hfz
  have HF := Lib.hid (de_end (c := 4) HA.out)
  unfold dfin fin2 fin4 at HF
  go_wp2
  generalize (World.setCell (World.setCell (World.setCell (World.setCell (World.setCell (World.setCell wa _ _) _ _) _ _) _ _) _ _) _ _) = W at HF ⊢
  obtain ⟨d0, d1, d2, d3⟩ := HF.out.1.1.cells
  obtain ⟨d4, d5, _, _⟩ := HF.out.1.2.cells
  refine bodyPost_ret (v := .tuple #[zQ, .agg #[.int .i64 4, .slice (some ⟨g, 0, none⟩) 1 1]]) ?_ rfl HF.out.2
  simp [results, Tryd.results11, go_sem, d0, d1, d2, d3, d4, d5, zQ]

theorem drow_off {W W' : World} {B k n : Nat} {u : Value} {xs : List Value} {cs cs' : Array Value} (h : W.ownsRow B 3 1 u n xs) (ho : Off (fun j => j = k ∨ j = k + 1) W W') (h1 : W.heap[k]? = some (.cells cs 38 (0, 0))) (h2 : W.heap[k + 1]? = some (.cells cs' 35 (0, 0))) : W'.ownsRow B 3 1 u n xs :=
  ownsRow_off h ho (fun j e1 e2 => by
    rcases e2 with e2 | e2
    · subst e2; exact row_no3 h h1 (by decide) e1
    · subst e2; exact row_no3 h h2 (by decide) e1)
theorem own_base3 {w : World} {b b' : Nat} {v : Value} {n : Nat} {xs : List Value} (h : w.ownsRow b' 3 1 v n xs) (hb : b ≤ b') : w.ownsRow b 3 1 v n xs := by
  obtain ⟨hl, h⟩ := h
  refine ⟨hl, ?_⟩
  rcases h with h | ⟨g, cap, cur, hv, hg, h⟩
  · exact .inl h
  · exact .inr ⟨g, cap, cur, hv, Nat.le_trans hb hg, h⟩

set_option maxRecDepth 100000 in
set_option maxHeartbeats 8000000 in
theorem rdec_fine (v : Value) (y : UInt8) (l : List UInt8) (w : World) (hv : BytesAt w v (y :: l)) (hl : (y :: l).length ≤ 3000) (hcap : ∀ ao n cap, v = .slice ao n cap → n ≤ cap) (hk : isFn (y.toNat : Int) = true) (hg : gOk (y :: l)) (hm : (gF (y :: l)).may = true) (he : (encF (gF (y :: l)) == y :: l) = true) : Calls Tryd.prog 11 #[v] w (RDecOk w (gF (y :: l))) := by
  obtain ⟨wx, hwx⟩ : ∃ wx, wx = (w.alloc (.cells #[.int .i64 0, .int .i64 0, .int .i64 0, .slice none 0 0] 38)).alloc (.cells #[.int .i64 0, .slice none 0 0] 35) := ⟨_, rfl⟩
  have D0 : Hid (DB w wx) := Lib.hid (by rw [hwx]; exact db_new w)
  have V0 := Lib.hid (hv.on D0.out.below)
  obtain ⟨bb, off, cap, rfl, p0⟩ := bytesAt_cons hv
  have q0 : ((w.alloc (.cells #[.int .i64 0, .int .i64 0, .int .i64 0, .slice none 0 0] 38)).alloc (.cells #[.int .i64 0, .slice none 0 0] 35)).cell? ⟨bb, off, none⟩ = some (.int .u8 (y.toNat : Int)) := by
    rw [← hwx]
    exact (D0.out.below.cell (p := ⟨bb, off, none⟩) (lt_cell p0)).trans p0
  have hy := byte_lt y
  have HI := Lib.hid hk
  have HCP := Lib.hid hcap
  have hcv : IntKind.i64.wrap (y.toNat : Int) = (y.toNat : Int) := by rw [IntKind.wrap_i64]; omega
  have hl0 : ((l.length : Int) + 1 == 0) = false := beq_eq_false_iff_ne.2 (by omega)
  have HL : Hid ((y :: l).length ≤ 3000) := Lib.hid hl
  have HP0 := Lib.hid p0
  have HG := Lib.hid hg
  have HMM : Hid (mayB (gF (y :: l)).f (gF (y :: l)).s (gF (y :: l)).c (gF (y :: l)).vs = true) := Lib.hid hm
  have HVL : Hid ((gF (y :: l)).vs.length ≤ 100000) := Lib.hid (gF_len _)
  have HB : Hid (∀ (v : Value) (W : World), IntsAt W v (gF (y :: l)).vs → Calls Tryd.prog 31 #[.agg #[.int .i64 (gF (y :: l)).f, .int .i64 (gF (y :: l)).s, .int .i64 (gF (y :: l)).c, v]] W (CopyIs W (encF (gF (y :: l))))) := Lib.hid (fun v W h => body_any _ v W h hm (by
    cases kind_of hm with
    | read hf hc hc2 hs hv => rw [hv]; simp
    | bit hf hc hs x hv hb => rw [hv]; simp
    | reg hf hc hs x hv hb => rw [hv]; simp
    | many hf hc hc1 hc2 hs hv hd => omega))
  generalize encF (gF (y :: l)) = out at *
  have HVV := Lib.hid hv
  have HEQ := Lib.hid he
  clear hg hm he
  clear hv hk p0 hl hcap
  go_enter Tryd.func11, Tryd.ntmps11
  go_wp2_with fail
  rw [← hwx]
  clear hwx q0
  refine (known_any _ wx).mono ?_
  rintro e w1 ⟨rfl, rfl⟩
  rw [HI.out]
  go_wp2_with fail
  refine (guess_yes _ (y :: l) wx V0.out (by have := HL.out; omega) HCP.out HG.out).mono ?_
  rintro e w2 ⟨u, rfl, hu, hb⟩
  generalize gF (y :: l) = r at *
  obtain ⟨f, s, c, vs⟩ := r
  unfold Rq.val
  dsimp only at hu
  obtain ⟨ua, uc, rfl⟩ := row_slice hu
  have hnb := below_new w2 (.cells #[.int .i64 f, .int .i64 s, .int .i64 c, .slice ua vs.length uc] 38)
  have D3 := Lib.hid ((D0.out.on hb).on hnb)
  have U3 := Lib.hid (ownsRow_off hu (Off.of_below (fun _ => False) hnb) (fun _ _ f => f))
  have Q3 : Hid (BoxQ (w2.alloc (.cells #[.int .i64 f, .int .i64 s, .int .i64 c, .slice ua vs.length uc] 38)) w2.heap.size f s c (.slice ua vs.length uc)) := Lib.hid (heap_alloc_new w2 _)
  have HSZ : Hid (w.heap.size + 1 < wx.heap.size ∧ wx.heap.size ≤ w2.heap.size) := Lib.hid ⟨lt_heap D0.out.e, hb.size⟩
  clear hu hb hnb
  obtain ⟨c0, c1, c2, c3⟩ := Q3.out.cells
  go_wp2_with fail
  generalize w2.alloc (.cells #[.int .i64 f, .int .i64 s, .int .i64 c, .slice ua vs.length uc] 38) = w3 at *
  refine (rmay_any f s c _ vs w3 (intsAt_own U3.out) HVL.out).mono ?_
  rintro e w4 ⟨rfl, hb⟩
  have D4 := Lib.hid (D3.out.on hb)
  have U4 := Lib.hid (ownsRow_off U3.out (Off.of_below (fun _ => False) hb) (fun _ _ f => f))
  have Q4 := Lib.hid (Q3.out.on hb)
  clear hb c0 c1 c2 c3
  rw [HMM.out]
  obtain ⟨c0, c1, c2, c3⟩ := Q4.out.cells
  go_wp2_with fail
  refine (HB.out (.slice ua vs.length uc) w4 (intsAt_own U4.out)).mono ?_
  rintro e w5 ⟨ve, rfl, ho, hb⟩
  have D5 := Lib.hid (D4.out.on hb)
  have Q5 := Lib.hid (Q4.out.on hb)
  have U5 := Lib.hid (ownsRow_off U4.out (Off.of_below (fun _ => False) hb) (fun _ _ f => f))
  have O5 := Lib.hid (bytesAt_own ho)
  obtain ⟨ea, ec, rfl⟩ := row_slice ho
  clear hb ho c0 c1 c2 c3
  go_wp2_with fail
  refine (alike_any _ _ out (y :: l) w5 O5.out (HVV.out.on D5.out.below)).mono ?_
  rintro e w6 ⟨rfl, rfl⟩
  rw [HEQ.out]
  obtain ⟨c0, c1, c2, c3⟩ := Q5.out.cells
  obtain ⟨b0, b1, b2, b3⟩ := D5.out.q.cells
  obtain ⟨k0, k1, g0, g1⟩ := D5.out.e.cells
  have hfz := (two_boxes D5.out).1
  have z0 := hfz 0
  have z1 := hfz 1
  have z2 := hfz 2
  have z3 := hfz 3
  clear hfz
  have HF : Hid ((BoxQ (dfin w5 w.heap.size f s c (.slice ua vs.length uc) 0 (.slice none 0 0)) w.heap.size f s c (.slice ua vs.length uc) ∧ BoxE (dfin w5 w.heap.size f s c (.slice ua vs.length uc) 0 (.slice none 0 0)) (w.heap.size + 1) 0 (.slice none 0 0)) ∧ RDecOk w ⟨f, s, c, vs⟩ (.returned (.tuple #[.agg #[.int .i64 f, .int .i64 s, .int .i64 c, .slice ua vs.length uc], e0])) (dfin w5 w.heap.size f s c (.slice ua vs.length uc) 0 (.slice none 0 0))) := Lib.hid (by
    obtain ⟨h1, h2, h3⟩ := dfin_box D5.out f s c (.slice ua vs.length uc) 0 (.slice none 0 0)
    exact ⟨⟨h1, h2⟩, _, rfl, own_base3 (drow_off U5.out (dfin_off _ _ _ _ _ _ _ _) D5.out.q D5.out.e) (by have := HSZ.out; omega), h3⟩)
  unfold dfin fin2 fin4 at HF
  go_wp2
  generalize (World.setCell (World.setCell (World.setCell (World.setCell (World.setCell (World.setCell w5 _ _) _ _) _ _) _ _) _ _) _ _) = W at HF ⊢
  obtain ⟨d0, d1, d2, d3⟩ := HF.out.1.1.cells
  obtain ⟨d4, d5, _, _⟩ := HF.out.1.2.cells
  refine bodyPost_ret (v := .tuple #[.agg #[.int .i64 f, .int .i64 s, .int .i64 c, .slice ua vs.length uc], e0]) ?_ rfl HF.out.2
  simp [results, Tryd.results11, go_sem, d0, d1, d2, d3, d4, d5, e0]
theorem rdec_ok (v : Value) (d : List UInt8) (w : World) (hv : BytesAt w v d) (hl : d.length ≤ 3000) (hcap : ∀ ao n cap, v = .slice ao n cap → n ≤ cap) (hd : decB d = true) : Calls Tryd.prog 11 #[v] w (RDecOk w (parseF d)) := by
  obtain ⟨g1, g2, g3, g4⟩ := dec_guess hd
  obtain ⟨y, l, rfl, hk⟩ := decB_first hd
  rw [← g2]
  exact rdec_fine v y l w hv hl hcap hk g1 g3 (by rw [g4]; simp)
theorem rdec_no (v : Value) (d : List UInt8) (w : World) (hv : BytesAt w v d) (hl : d.length ≤ 3000) (hcap : ∀ ao n cap, v = .slice ao n cap → n ≤ cap) (hd : decB d = false) : Calls Tryd.prog 11 #[v] w (RDecNo w (rdN d 0 1).1 (decCode d)) := by
  cases d with
  | nil =>
    rw [rdN_nil]
    exact rdec_nil v w hv
  | cons y l =>
    unfold decCode
    rw [rdN_first, if_neg (by simp)]
    cases hf : isFn (y.toNat : Int) with
    | false => exact rdec_kind v y l w hv hf
    | true =>
      by_cases g1 : gOk (y :: l)
      · cases hm : (gF (y :: l)).may with
        | false => exact rdec_form2 v y l w hv hl hcap hf g1 hm
        | true => exact rdec_form3 v y l w hv hl hcap hf g1 hm (beq_eq_false_iff_ne.2 (dec_guess_no hd hm))
      · exact rdec_form1 v y l w hv hl hcap hf g1
end Go.Proofs.YtngfaailbkadfaaDoor
