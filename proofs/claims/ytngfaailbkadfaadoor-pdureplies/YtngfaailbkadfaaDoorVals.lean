/- pdu.dataOf, valuesOf, takeValues, putValues, wordOf, putHead: values into bytes and out of them. -/
import Derived.Test.YtngfaailbkadfaaDoorRst
namespace Go.Proofs.YtngfaailbkadfaaDoor
open Go.RowKit Go.Extern.Stop Go.Stop Go.Extern
set_option maxRecDepth 100000

theorem CopyIs.up {w w1 : World} {l : List UInt8} {e : Ending} {w' : World} (h : CopyIs w1 l e w') (hb : Below w.heap.size w w1) : CopyIs w l e w' := by
  obtain ⟨v, rfl, hx, hy⟩ := h
  exact ⟨v, rfl, ownsRow_base hx hb.size, hb.trans (hy.mono hb.size)⟩
theorem RowI.up {w w1 : World} {l : List Int} {e : Ending} {w' : World} (h : RowI w1 l e w') (hb : Below w.heap.size w w1) : RowI w l e w' := by
  obtain ⟨v, rfl, hx, hy⟩ := h
  exact ⟨v, rfl, ownsRow_base hx hb.size, hb.trans (hy.mono hb.size)⟩

set_option maxHeartbeats 1000000 in
theorem dataof_any (f : Int) (v : Value) (l : List Int) (w : World) (hv : IntsAt w v l) (hb : ValsOk f l) (hl : l.length ≤ 100000) : Calls Tryd.prog 50 #[.int .i64 f, v] w (CopyIs w (dataF f l)) := by
  have HV := Lib.hid hv
  have HB := Lib.hid hb
  have HL := Lib.hid hl
  have HD : Hid (dataF f l = if fTop f = 1 then packB l else wordsB l) := Lib.hid rfl
  obtain ⟨ao, cap, rfl, _⟩ := id hv
  clear hv hb hl
  go_enter Tryd.func50, Tryd.ntmps50
  go_wp2_with fail
  refine (format_any f w).mono ?_
  rintro e w1 ⟨rfl, hb⟩
  have HB1 := Lib.hid hb
  clear hb
  unfold fmtV
  rcases HB.out with ⟨e1, hx⟩ | ⟨e1, hx⟩
  · have HX := Lib.hid hx
    have HE := Lib.hid e1
    rw [e1]
    clear hx e1
    generalize fMost f = m
    generalize fReads f = r
    go_wp2
    rw [fld1]
    go_wp2_with fail
    refine (packed_any _ l w1 (HV.out.on HB1.out) HX.out HL.out).mono ?_
    intro e w2 h
    have H := Lib.hid (h.up HB1.out)
    obtain ⟨x, rfl, _, _⟩ := h
    go_wp2
    go_ret
    rw [HD.out, if_pos HE.out]
    exact H.out
  · have HX := Lib.hid hx
    have HE := Lib.hid e1
    rw [e1]
    clear hx e1
    generalize fMost f = m
    generalize fReads f = r
    go_wp2
    rw [fld1]
    go_wp2_with fail
    refine (words_any _ l w1 (HV.out.on HB1.out) HX.out HL.out).mono ?_
    intro e w2 h
    have H := Lib.hid (h.up HB1.out)
    obtain ⟨x, rfl, _, _⟩ := h
    go_wp2
    go_ret
    rw [HD.out, if_neg (by have := HE.out; omega)]
    exact H.out

set_option maxHeartbeats 1000000 in
theorem valuesof_any (f : Int) (v : Value) (d : List UInt8) (c : Int) (w : World) (hv : BytesAt w v d) (hl : d.length ≤ 100000) : Calls Tryd.prog 76 #[.int .i64 f, v, .int .i64 c] w (RowI w (valsF f d c)) := by
  have HV := Lib.hid hv
  have HL := Lib.hid hl
  have HD : Hid (valsF f d c = if fTop f = 1 then unF d c else fwF d c) := Lib.hid rfl
  obtain ⟨ao, cap, rfl, _⟩ := id hv
  clear hv hl
  go_enter Tryd.func76, Tryd.ntmps76
  go_wp2_with fail
  refine (format_any f w).mono ?_
  rintro e w1 ⟨rfl, hb⟩
  have HB1 := Lib.hid hb
  clear hb
  unfold fmtV
  by_cases e1 : fTop f = 1
  · have HE := Lib.hid e1
    rw [e1]
    clear e1
    generalize fMost f = m
    generalize fReads f = r
    go_wp2
    rw [fld1]
    go_wp2_with fail
    refine (unpacked_any _ d c w1 (HV.out.on HB1.out) HL.out).mono ?_
    intro e w2 h
    have H := Lib.hid (h.up HB1.out)
    obtain ⟨x, rfl, _, _⟩ := h
    go_wp2
    go_ret
    rw [HD.out, if_pos HE.out]
    exact H.out
  · have HE := Lib.hid e1
    have ht : (fTop f == 1) = false := by simpa using e1
    clear e1
    generalize fMost f = m
    generalize fReads f = r
    generalize fTop f = t at *
    go_wp2
    rw [fld1]
    go_wp2_with fail
    refine (fromw_any _ d c w1 (HV.out.on HB1.out) HL.out).mono ?_
    intro e w2 h
    have H := Lib.hid (h.up HB1.out)
    obtain ⟨x, rfl, _, _⟩ := h
    go_wp2
    go_ret
    rw [HD.out, if_neg HE.out]
    exact H.out

/-- What taking values leaves. -/
def TakeV (W0 w : World) (r : Nat) (l : List UInt8) (p : Nat) (f c : Int) (e : Ending) (w' : World) : Prop :=
  (∃ v, e = .returned v ∧ w'.ownsRow w.heap.size 3 1 v (takeF l p f c).length (icells (takeF l p f c))) ∧ Below W0.heap.size W0 w' ∧ Off (fun k => k = r) w w'
set_option maxHeartbeats 1000000 in
theorem takev_any (W0 w : World) (r : Nat) (l : List UInt8) (p : Nat) (f c : Int) (h : Rs W0 r l p w) (hl : l.length ≤ 100000) : Calls Tryd.prog 57 #[.pointer (some ⟨r, 0, none⟩), .int .i64 f, .int .i64 c] w (TakeV W0 w r l p f c) := by
  have H := Lib.hid h
  have HL := Lib.hid hl
  clear h hl
  go_enter Tryd.func57, Tryd.ntmps57
  go_wp2_with fail
  refine (rs_b W0 w r l p 1 H.out (by omega) (by omega)).mono ?_
  rintro e w1 ⟨⟨x, rfl⟩, h1, ho1⟩
  have H1 := Lib.hid h1
  have O1 := Lib.hid ho1
  have hz : 0 ≤ (rdN l p 1).1 := by unfold rdN; split <;> omega
  have HZ := Lib.hid hz
  have HT : Hid (takeF l p f c = valsF f (rdB l (rdN l p 1).2 (rdN l p 1).1).1 c) := Lib.hid rfl
  clear h1 ho1 hz
  generalize (rdN l p 1).1 = z at *
  generalize (rdN l p 1).2 = p1 at *
  go_wp2_with fail
  refine (rs_bytes W0 w1 r l p1 z H1.out HZ.out).mono ?_
  rintro e w2 ⟨⟨u, x2, rfl, hu⟩, h2, ho2⟩
  have hlen : (rdB l p1 z).1.length ≤ 100000 := by
    have := HL.out
    unfold rdB
    split
    · simp only [List.length_take, List.length_drop]; omega
    · simp
  have HLn := Lib.hid hlen
  have H2 := Lib.hid h2
  have O2 := Lib.hid (O1.out.trans ho2)
  have HU := Lib.hid hu
  clear h2 ho2 hu hlen
  generalize (rdB l p1 z).1 = d at *
  generalize (rdB l p1 z).2 = p2 at *
  go_wp2_with fail
  refine (valuesof_any f u d c w2 HU.out HLn.out).mono ?_
  rintro e w3 ⟨v, rfl, hv, hb⟩
  have HR : Hid (TakeV W0 w r l p f c (.returned v) w3) := Lib.hid ⟨⟨v, rfl, by rw [HT.out]; exact ownsRow_base hv O2.out.size⟩, H2.out.below.trans (hb.mono H2.out.below.size), O2.out.trans (Off.of_below _ hb)⟩
  clear hv hb
  go_wp2
  go_ret
  exact HR.out
end Go.Proofs.YtngfaailbkadfaaDoor
