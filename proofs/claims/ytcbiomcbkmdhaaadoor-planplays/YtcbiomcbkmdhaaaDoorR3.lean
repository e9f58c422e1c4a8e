/- The document's Plan refuses, and tells which poll is next. -/
import Derived.Test.YtcbiomcbkmdhaaaDoorR2
import Derived.Test.YtcbiomcbkmdhaaaDoorSame
namespace Go.Proofs.YtcbiomcbkmdhaaaDoor
open Go.RowKit Go.Extern.Stop Go.Stop Go.Extern

theorem PErr.chain {w : World} {x c : Int} {v : Value} (h : PErr w x c v) : Chain w (.iface 32 (.int .i64 c)) [(sPlan, x)] v := by
  obtain ⟨b, rfl, h⟩ := h
  exact ⟨b, _, rfl, lt_heap h, by rw [cell_of_row _ _ _ _ _ _ h]; rfl, by rw [cell_of_row _ _ _ _ _ _ h]; rfl, by rw [cell_of_row _ _ _ _ _ _ h]; rfl, rfl⟩
theorem at_any (s : ByteArray) (p c : Int) (w : World) : Calls Tryd.prog 19 #[.string s, .int .i64 p, .int .i64 c] w fun e w' => (∃ g : Nat, e = .returned (.agg #[.int .i64 c, .slice (some ⟨g, 0, none⟩) 1 1]) ∧ StepsOwn w' (.slice (some ⟨g, 0, none⟩) 1 1) [(s, p)] ∧ w.heap.size < g) ∧ Below w.heap.size w w' := by
  go_enter Tryd.func19, Tryd.ntmps19
  go_wp2
  refine bodyPost_ret (v := .agg #[.int .i64 c, .slice (some ⟨w.heap.size + 1, 0, none⟩) 1 1]) ?_ rfl ⟨⟨w.heap.size + 1, rfl, ?_, by omega⟩, ?_⟩
  · simp [results, Tryd.results19, go_sem]
  · refine ⟨some ⟨w.heap.size + 1, 0, none⟩, 1, rfl, fun i hi => ?_⟩
    have hi0 : i = 0 := by simpa using hi
    subst hi0
    exact ⟨w.heap.size + 1, rfl, by simp, by simp, by simp⟩
  · exact two_belowW _ _ _

theorem StepsOwn.off {w w' : World} {g k : Nat} {x : ByteArray × Int} (h : StepsOwn w (.slice (some ⟨g, 0, none⟩) 1 1) [x]) (ho : Off (fun j => j = k) w w') (hg : g ≠ k) : StepsOwn w' (.slice (some ⟨g, 0, none⟩) 1 1) [x] := by
  obtain ⟨ao, cap, hv, h⟩ := h
  refine ⟨ao, cap, hv, fun i hi => ?_⟩
  obtain ⟨g', ha, hlt, h0, h1⟩ := h i hi
  simp only [Value.slice.injEq] at hv
  obtain ⟨e1, _, _⟩ := hv
  rw [ha] at e1
  obtain rfl : g = g' := by simpa using e1
  have hb : w'.heap[g]? = w.heap[g]? := ho.block g hlt hg
  have hc : ∀ o, w'.cell? ⟨g, o, none⟩ = w.cell? ⟨g, o, none⟩ := fun o => by simp only [World.cell?, hb]
  exact ⟨g, ha, Nat.lt_of_lt_of_le hlt ho.size, (hc _).trans h0, (hc _).trans h1⟩

/-- What is known behind At, where a box stands. -/
structure AtBox (w wa : World) (k : Nat) (x c : Int) (g : Nat) : Prop where
  box : BoxE wa k 0 (.slice none 0 0)
  steps : StepsOwn wa (.slice (some ⟨g, 0, none⟩) 1 1) [(sPlan, x)]
  ne : g ≠ k
  below : Below w.heap.size w wa
theorem at_box (x c : Int) (w w0 : World) (k : Nat) (hb : BoxE w0 k 0 (.slice none 0 0)) (hw : Below w.heap.size w w0) : Calls Tryd.prog 19 #[.string sPlan, .int .i64 x, .int .i64 c] w0 fun e wa => ∃ g : Nat, e = .returned (.agg #[.int .i64 c, .slice (some ⟨g, 0, none⟩) 1 1]) ∧ Hid (AtBox w wa k x c g) := by
  refine (at_any sPlan x c w0).mono ?_
  rintro e wa ⟨⟨g, rfl, hs, hg⟩, hbl⟩
  exact ⟨g, rfl, Lib.hid ⟨hb.on hbl, hs, fun e => by have := lt_heap hb; omega, hw.trans (hbl.mono hw.size)⟩⟩


/-- An error of the document's. -/
def RNo (w : World) (x c : Int) (e : Ending) (w' : World) : Prop := ∃ g : Nat, e = .returned (.agg #[.int .i64 c, .slice (some ⟨g, 0, none⟩) 1 1]) ∧ StepsOwn w' (.slice (some ⟨g, 0, none⟩) 1 1) [(sPlan, x)] ∧ Below w.heap.size w w'

set_option maxRecDepth 100000 in
set_option maxHeartbeats 2000000 in
theorem rdone_none (B q : Nat) (ve vd : Value) (ts : List (Int × Int)) (i now : Int) (w : World) (h : RpAt w B q ve vd ts) (hi : hasP ts i = false) :
    Calls Tryd.prog 11 #[.pointer (some ⟨q, 0, none⟩), .int .i64 i, .int .i64 now] w (RNo w i 7) := by
  obtain ⟨wx, hwx⟩ : ∃ wx, wx = w.alloc (.cells #[.int .i64 0, .slice none 0 0] 35) := ⟨_, rfl⟩
  have X0 : Hid (Below w.heap.size w wx) := Lib.hid (by rw [hwx]; exact below_nw w _)
  have B0 : Hid (BoxE wx w.heap.size 0 (.slice none 0 0)) := Lib.hid (by rw [hwx]; exact heap_alloc_new w _)
  have key : ∀ (g : Nat) (wa : World), Hid (AtBox w wa w.heap.size i 7 g) → Hid (BoxE (fin2 wa w.heap.size 7 (.slice (some ⟨g, 0, none⟩) 1 1)) w.heap.size 7 (.slice (some ⟨g, 0, none⟩) 1 1) ∧ RNo w i 7 (.returned (.agg #[.int .i64 7, .slice (some ⟨g, 0, none⟩) 1 1])) (fin2 wa w.heap.size 7 (.slice (some ⟨g, 0, none⟩) 1 1))) := fun g wa ha =>
    Lib.hid ⟨fin2_box ha.out.box _ _, g, rfl, ha.out.steps.off (fin2_off _ _ _ _) ha.out.ne, fin2_below ha.out.below _ (Nat.le_refl _) _ _⟩
  have HK := Lib.hid key
  have c1w := (h.on (below_nw w (.cells #[.int .i64 0, .slice none 0 0] 35))).c1
  obtain ⟨ao, c, rfl⟩ := rslice h.du
  have hc : i < 0 ∨ (0 ≤ i ∧ (ts.length : Int) ≤ i) := by
    have : ¬ (0 ≤ i ∧ i < (ts.length : Int)) := by simpa [hasP] using hi
    omega
  clear key h hi
  rcases hc with hc | ⟨hc, hc2⟩ <;> (
    go_enter Tryd.func11, Tryd.ntmps11
    go_wp2_with fail
    rw [← hwx]
    clear hwx c1w
    refine (at_box i 7 w wx _ B0.out X0.out).mono ?_
    rintro e wa ⟨g, rfl, HA⟩
    obtain ⟨c0, c1, f0, f1⟩ := HA.out.box.cells
    have HF := HK.out g wa HA
    unfold fin2 at HF
    go_wp2
    generalize (World.setCell (World.setCell wa _ _) _ _) = W at HF ⊢
    obtain ⟨d0, d1, _, _⟩ := HF.out.1.cells
    refine bodyPost_ret (v := .agg #[.int .i64 7, .slice (some ⟨g, 0, none⟩) 1 1]) ?_ rfl HF.out.2
    simp [results, Tryd.results11, go_sem, d0, d1])

set_option maxRecDepth 100000 in
set_option maxHeartbeats 2000000 in
theorem rdone_bad (B q : Nat) (ve vd : Value) (ts : List (Int × Int)) (i now : Int) (w : World) (h : RpAt w B q ve vd ts) (hi : hasP ts i = true) (hn : now < 0 ∨ 1099511627776 < now) :
    Calls Tryd.prog 11 #[.pointer (some ⟨q, 0, none⟩), .int .i64 i, .int .i64 now] w (RNo w i 1) := by
  obtain ⟨wx, hwx⟩ : ∃ wx, wx = w.alloc (.cells #[.int .i64 0, .slice none 0 0] 35) := ⟨_, rfl⟩
  have X0 : Hid (Below w.heap.size w wx) := Lib.hid (by rw [hwx]; exact below_nw w _)
  have B0 : Hid (BoxE wx w.heap.size 0 (.slice none 0 0)) := Lib.hid (by rw [hwx]; exact heap_alloc_new w _)
  have key : ∀ (g : Nat) (wa : World), Hid (AtBox w wa w.heap.size i 1 g) → Hid (BoxE (fin2 wa w.heap.size 1 (.slice (some ⟨g, 0, none⟩) 1 1)) w.heap.size 1 (.slice (some ⟨g, 0, none⟩) 1 1) ∧ RNo w i 1 (.returned (.agg #[.int .i64 1, .slice (some ⟨g, 0, none⟩) 1 1])) (fin2 wa w.heap.size 1 (.slice (some ⟨g, 0, none⟩) 1 1))) := fun g wa ha =>
    Lib.hid ⟨fin2_box ha.out.box _ _, g, rfl, ha.out.steps.off (fin2_off _ _ _ _) ha.out.ne, fin2_below ha.out.below _ (Nat.le_refl _) _ _⟩
  have HK := Lib.hid key
  have c1w := (h.on (below_nw w (.cells #[.int .i64 0, .slice none 0 0] 35))).c1
  obtain ⟨ao, c, rfl⟩ := rslice h.du
  have hc : now < 0 ∨ (0 ≤ now ∧ 1099511627776 < now) := by omega
  have hi0 : 0 ≤ i ∧ i < (ts.length : Int) := by simpa [hasP] using hi
  obtain ⟨hi1, hi2⟩ := hi0
  clear key h hi hn
  rcases hc with hc | ⟨hc, hc2⟩ <;> (
    go_enter Tryd.func11, Tryd.ntmps11
    go_wp2_with fail
    rw [← hwx]
    clear hwx c1w
    refine (at_box i 1 w wx _ B0.out X0.out).mono ?_
    rintro e wa ⟨g, rfl, HA⟩
    obtain ⟨c0, c1, f0, f1⟩ := HA.out.box.cells
    have HF := HK.out g wa HA
    unfold fin2 at HF
    go_wp2
    generalize (World.setCell (World.setCell wa _ _) _ _) = W at HF ⊢
    obtain ⟨d0, d1, _, _⟩ := HF.out.1.cells
    refine bodyPost_ret (v := .agg #[.int .i64 1, .slice (some ⟨g, 0, none⟩) 1 1]) ?_ rfl HF.out.2
    simp [results, Tryd.results11, go_sem, d0, d1])

set_option maxRecDepth 100000 in
set_option maxHeartbeats 4000000 in
theorem rnext_any (B q : Nat) (ve vd : Value) (ts : List (Int × Int)) (now : Int) (w : World) (h : RpAt w B q ve vd ts) (hl : ts.length ≤ 16) :
    Calls Tryd.prog 13 #[.pointer (some ⟨q, 0, none⟩), .int .i64 now] w fun e w' => e = .returned (nextV (nextP ts now)) ∧ Below w.heap.size w w' := by
  have H := Lib.hid h
  have HL := Lib.hid hl
  clear h hl
  go_enter Tryd.func13, Tryd.ntmps13
  go_wp2
  go_loopg [6, 7] ts.length (fun k s6 s7 wr => ∃ (i : Nat) (b : Int), i ≤ ts.length ∧ k = ts.length - i ∧ s6 = .int .i64 b ∧ s7 = .int .i64 (i : Int) ∧ Hid (Below w.heap.size w wr) ∧ Hid ((b = -1 ∧ nextTo ts now i = none) ∨ (∃ n : Nat, b = (n : Int) ∧ n < i ∧ nextTo ts now i = some n)))
  case atStart => exact ⟨0, -1, Nat.zero_le _, rfl, rfl, rfl, Lib.hid (Below.refl _ _), Lib.hid (.inl ⟨rfl, rfl⟩)⟩
  case round =>
    obtain ⟨i, b, hi, rfl, rfl, rfl, hbr, hst⟩ := hrel
    have P2 := Lib.hid (H.out.on hbr.out)
    have c1 := P2.out.c1
    by_cases hlt : i < ts.length
    · obtain ⟨g, c, hvd, p1⟩ := P2.out.dform i hlt
      rw [hvd] at c1
      have HVD := Lib.hid hvd
      have hi0 : (0 : Int) ≤ (i : Int) := by omega
      have hil : (i : Int) < (ts.length : Int) := by omega
      obtain ⟨t2, ht2⟩ : ∃ t2, t2 = dueP ts i := ⟨_, rfl⟩
      have HD := Lib.hid ht2
      rw [← ht2] at p1
      clear ht2 hvd
      by_cases hq : t2 ≤ now
      · rcases hst.out with ⟨rfl, hn⟩ | ⟨n, rfl, hni, hn⟩
        · have HS : Hid (nextTo ts now (i + 1) = some i) := Lib.hid (by
            simp only [nextTo, hn, ← HD.out]
            rw [if_pos hq])
          clear hn hst
          go_wp2_with fail
          go_quiet (fail)
          generalize hw2 : wr.drewN nq = w2
          have HB3 : Hid (Below w.heap.size w w2) := Lib.hid (by rw [← hw2]; exact below_drewN' hbr.out _)
          clear hw2
          go_wp2
          go_roundg (ts.length - (i + 1))
          case measure => omega
          case rel => exact ⟨i + 1, (i : Int), by omega, rfl, rfl, (by first | exact next_int i (by have := HL.out; omega) | exact congrArg _ (by omega)), HB3, Lib.hid (.inr ⟨i, rfl, by omega, HS.out⟩)⟩
        · obtain ⟨g', c', hvd', cn⟩ := P2.out.dform n (by omega)
          rw [HVD.out] at hvd'
          simp only [Value.slice.injEq, Option.some.injEq, Addr.mk.injEq] at hvd'
          obtain ⟨⟨rfl, _, _⟩, _, _⟩ := hvd'
          have hn0 : (0 : Int) ≤ (n : Int) := by omega
          have hnl : (n : Int) < (ts.length : Int) := by omega
          obtain ⟨dn, hdn⟩ : ∃ dn, dn = dueP ts n := ⟨_, rfl⟩
          have HDN := Lib.hid hdn
          rw [← hdn] at cn
          clear hdn
          by_cases hq2 : t2 < dn
          · have HS : Hid (nextTo ts now (i + 1) = some i) := Lib.hid (by
              simp only [nextTo, hn, ← HD.out]
              rw [if_pos ⟨hq, by rw [← HDN.out]; exact hq2⟩])
            clear hn hst
            go_wp2_with fail
            go_quiet (fail)
            generalize hw2 : wr.drewN nq = w2
            have HB3 : Hid (Below w.heap.size w w2) := Lib.hid (by rw [← hw2]; exact below_drewN' hbr.out _)
            clear hw2
            go_wp2
            go_roundg (ts.length - (i + 1))
            case measure => omega
            case rel => exact ⟨i + 1, (i : Int), by omega, rfl, rfl, (by first | exact next_int i (by have := HL.out; omega) | exact congrArg _ (by omega)), HB3, Lib.hid (.inr ⟨i, rfl, by omega, HS.out⟩)⟩
          · have HS : Hid (nextTo ts now (i + 1) = some n) := Lib.hid (by
              simp only [nextTo, hn, ← HD.out]
              rw [if_neg (fun x => hq2 (by rw [HDN.out]; exact x.2))])
            have hnn : Hid (n < i) := Lib.hid hni
            clear hn hst hni
            go_wp2_with fail
            go_quiet (fail)
            generalize hw2 : wr.drewN nq = w2
            have HB3 : Hid (Below w.heap.size w w2) := Lib.hid (by rw [← hw2]; exact below_drewN' hbr.out _)
            clear hw2
            go_wp2
            go_roundg (ts.length - (i + 1))
            case measure => omega
            case rel => exact ⟨i + 1, (n : Int), by omega, rfl, rfl, (by first | exact next_int i (by have := HL.out; omega) | exact congrArg _ (by omega)), HB3, Lib.hid (.inr ⟨n, rfl, by have := hnn.out; omega, HS.out⟩)⟩
      · have HS : Hid ((b = -1 ∧ nextTo ts now (i + 1) = none) ∨ (∃ n : Nat, b = (n : Int) ∧ n < i + 1 ∧ nextTo ts now (i + 1) = some n)) := Lib.hid (by
          rcases hst.out with ⟨h1, hn⟩ | ⟨n, h1, hni, hn⟩
          · refine .inl ⟨h1, ?_⟩
            simp only [nextTo, hn, ← HD.out]
            rw [if_neg hq]
          · refine .inr ⟨n, h1, by omega, ?_⟩
            simp only [nextTo, hn, ← HD.out]
            rw [if_neg (fun x => hq x.1)])
        have hq' : decide (t2 ≤ now) = false := by simpa using hq
        have hq2 : now < t2 := by omega
        clear hst hq
        go_wp2_with fail
        go_quiet (fail)
        generalize hw2 : wr.drewN nq = w2
        have HB3 : Hid (Below w.heap.size w w2) := Lib.hid (by rw [← hw2]; exact below_drewN' hbr.out _)
        clear hw2
        go_wp2
        go_roundg (ts.length - (i + 1))
        case measure => omega
        case rel => exact ⟨i + 1, b, by omega, rfl, rfl, (by first | exact next_int i (by have := HL.out; omega) | exact congrArg _ (by omega)), HB3, HS⟩
    · have hil : (ts.length : Int) ≤ (i : Int) := by omega
      obtain ⟨ao, c, hvd⟩ := rslice P2.out.du
      rw [hvd] at c1
      have e : i = ts.length := by omega
      rcases hst.out with ⟨rfl, hn⟩ | ⟨n, rfl, _, hn⟩
      · have HE : Hid (Ending.returned (.tuple #[.int .i64 0, .bool false]) = .returned (nextV (nextP ts now))) := Lib.hid (by
          unfold nextP
          rw [← e, hn]; rfl)
        clear hst hn e hvd
        go_wp2
        go_ret2
        exact ⟨HE.out, hbr.out⟩
      · have HE : Hid (Ending.returned (.tuple #[.int .i64 (n : Int), .bool true]) = .returned (nextV (nextP ts now))) := Lib.hid (by
          unfold nextP
          rw [← e, hn]; rfl)
        have hn0 : (0 : Int) ≤ (n : Int) := by omega
        clear hst hn e hvd
        go_wp2
        go_ret2
        exact ⟨HE.out, hbr.out⟩
end Go.Proofs.YtcbiomcbkmdhaaaDoor
