/- wire.Writer.Bytes; yardref.At; yardlaw2.first answers true; all older memory stands. -/
import Derived.Test.YtpdngcjgfngnjaaDoorWr
import Derived.Test.YtpdngcjgfngnjaaDoorSame
namespace Go.Proofs.YtpdngcjgfngnjaaDoor
open Go.RowKit Go.Extern.Stop Go.Stop Go.Extern

set_option maxRecDepth 100000 in
set_option maxHeartbeats 1000000 in
/-- Writer.Bytes. -/
theorem wbytes_any (B b : Nat) (v u : Value) (l m : List UInt8) (w : World) (h : WrAt w B b v l) (hu : BytesAt w u m) (hl : l.length + m.length ≤ 140737488355328) :
    Calls Tryd.prog 39 #[.pointer (some ⟨b, 0, none⟩), u] w fun e w' => e = .returned (.tuple #[]) ∧ PutIs w B b v l m w' := by
  obtain ⟨i0, hi0, hz0, hz1, hz2⟩ := info_parts info5
  have H := Lib.hid h
  have c0 := h.c0
  have f0 := h.f0
  have hown := h.own
  have hBs : B ≤ w.heap.size := Nat.le_trans h.base (Nat.le_of_lt h.lt)
  obtain ⟨ao, cap, rfl⟩ := h.bytes
  obtain ⟨au, cu, rfl, hc⟩ := hu
  cases au with
  | none =>
    have h0 : m = [] := by
      cases m with
      | nil => rfl
      | cons x l => obtain ⟨b, off, e, _⟩ := hc 0 (by simp); cases e
    subst h0
    have hcap : l.length ≤ cap := by
      rcases hown.2 with ⟨hv, h0⟩ | ⟨g, cap', cur, hv, _, _, h1, _⟩
      · rw [h0]; exact Nat.zero_le _
      · simp only [Value.slice.injEq] at hv
        rw [hv.2.2]; exact h1
    have HA : Hid (AppIs w B (.slice ao l.length cap) l [] (.returned (.slice ao l.length cap)) w) := Lib.hid ⟨_, rfl, by rw [List.append_nil]; exact hown, Off.refl _ _, fun k hk => .inl hk⟩
    clear h hc hl hown
    cases ao with
    | none =>
      go_enter Tryd.func39, Tryd.ntmps39
      go_wp2
      go_end0
      exact ⟨rfl, H.out.put HA.out⟩
    | some ad =>
      go_enter Tryd.func39, Tryd.ntmps39
      go_wp2
      go_end0
      exact ⟨rfl, H.out.put HA.out⟩
  | some a =>
    have HC := Lib.hid (bytes_news hc)
    have HO := Lib.hid hown
    clear hc h hown
    go_enter Tryd.func39, Tryd.ntmps39
    go_wp2_with (at_builtin; refine wpList_append_own_at _ rfl _ _ 22 rfl B 5 i0 _ 1 1 Tryd.underlying22 hi0 hz0 hz1 hz2 rfl (by omega) _ l.length (bcells l) rfl HO.out a m.length cu (bcells m) rfl ?qc1 HC.out (bcells_one m) ?qc4 ?qc5 hBs ?_)
    case qc1 => rw [bcells_length]; omega
    case qc4 => unfold maxLen; omega
    case qc5 => omega
    intro v' w1 ho hgrow hnil hat
    have HA : Hid (AppIs w B (.slice ao l.length cap) l m (.returned v') w1) := Lib.hid ⟨_, rfl, by rw [List.length_append, bcells_append]; exact ho, Off.of_grown hgrow, fun k hk => by
      rcases hat with h | h
      · exact .inl (by rw [← h]; exact hk)
      · right
        rw [h] at hk
        simp at hk
        omega⟩
    have hbw : w1.heap[b]? = some (.cells #[.slice ao l.length cap] 83 (0, 0)) := (hgrow.block b H.out.lt (fun e => row_no H.out.own H.out.obj (by decide) e.symm)).trans H.out.obj
    have c1 : w1.cell? ⟨b, 0, none⟩ = some (.slice ao l.length cap) := by rw [cell_of_row _ _ _ _ _ _ hbw]; rfl
    have f1 : w1.frozen? ⟨b, 0, none⟩ = false := frozen_of_row _ _ _ _ _ hbw
    obtain ⟨av', cv', hv'⟩ : ∃ av cv, v' = .slice av (l.length + m.length) cv := by
      rcases ho.2 with ⟨hv, h0⟩ | ⟨g, cap', cur, hv, _⟩
      · exact ⟨none, 0, by rw [hv, h0]⟩
      · exact ⟨_, _, hv⟩
    subst hv'
    clear ho hgrow hnil hat hbw c0 f0
    go_wp2
    go_end0
    exact ⟨rfl, H.out.put HA.out⟩

theorem at_any (s : ByteArray) (p c : Int) (w : World) : Calls Tryd.prog 40 #[.string s, .int .i64 p, .int .i64 c] w fun e w' => (∃ g : Nat, e = .returned (.agg #[.int .i64 c, .slice (some ⟨g, 0, none⟩) 1 1]) ∧ StepsOwn w' (.slice (some ⟨g, 0, none⟩) 1 1) [(s, p)]) ∧ Below w.heap.size w w' := by
  go_enter Tryd.func40, Tryd.ntmps40
  go_wp2
  refine bodyPost_ret (v := .agg #[.int .i64 c, .slice (some ⟨w.heap.size + 1, 0, none⟩) 1 1]) ?_ rfl ⟨⟨w.heap.size + 1, rfl, ?_⟩, ?_⟩
  · simp [results, Tryd.results40, go_sem]
  · refine ⟨some ⟨w.heap.size + 1, 0, none⟩, 1, rfl, fun i hi => ?_⟩
    have hi0 : i = 0 := by simpa using hi
    subst hi0
    exact ⟨w.heap.size + 1, rfl, by simp, by simp, by simp⟩
  · exact two_belowW _ _ _

theorem lit5 (w : World) : BytesAt (w.alloc (.cells #[.int .u8 52, .int .u8 18, .int .u8 52, .int .u8 18, .int .u8 255] 5)) (.slice (some ⟨w.heap.size, 0, none⟩) 5 5) [52, 18, 52, 18, 255] := by
  refine ⟨some ⟨w.heap.size, 0, none⟩, 5, rfl, fun i hi => ⟨w.heap.size, 0, rfl, ?_⟩⟩
  match i, hi with
  | 0, _ => simp
  | 1, _ => simp
  | 2, _ => simp
  | 3, _ => simp
  | 4, _ => simp
  | i + 5, hi => exact absurd hi (by simp)
theorem lit1 (w : World) : BytesAt (w.alloc (.cells #[.int .u8 1] 5)) (.slice (some ⟨w.heap.size, 0, none⟩) 1 1) [1] := by
  refine ⟨some ⟨w.heap.size, 0, none⟩, 1, rfl, fun i hi => ⟨w.heap.size, 0, rfl, ?_⟩⟩
  match i, hi with
  | 0, _ => simp
  | i + 1, hi => simp at hi

set_option maxRecDepth 100000 in
set_option maxHeartbeats 4000000 in
theorem first_any (w : World) (hg : ErrT w) : Calls Tryd.prog 11 #[] w fun e w' => e = .returned (.bool true) ∧ Below w.heap.size w w' := by
  have HG := Lib.hid hg
  clear hg
  have hb0 : Below w.heap.size w (w.alloc (.cells #[.int .u8 52, .int .u8 18, .int .u8 52, .int .u8 18, .int .u8 255] 5)) := below_new _ _
  go_enter Tryd.func11, Tryd.ntmps11
  go_wp2_with fail
  refine (new_reader _ _ _ (lit5 w) (by decide)).mono ?_
  rintro e w1 ⟨r, v, rfl, hr, hb⟩
  have HR := Lib.hid hr
  have HB1 := Lib.hid (hb0.trans (hb.mono hb0.size))
  have hrl : r < w1.heap.size := hr.lt
  have hrb : w.heap.size ≤ r := Nat.le_trans hb0.size hr.base
  clear hb hb0 hr
  have hb0 : Below w1.heap.size w1 (w1.alloc (.cells #[.int .u8 1] 5)) := below_new _ _
  go_wp2_with fail
  refine (new_reader _ _ _ (lit1 w1) (by decide)).mono ?_
  rintro e w2 ⟨s, u, rfl, hs, hb⟩
  have HB2 := Lib.hid (HB1.out.trans ((hb0.trans (hb.mono hb0.size)).mono HB1.out.size))
  have HR2 := Lib.hid (HR.out.on (hb0.trans (hb.mono hb0.size)))
  have HS2 := Lib.hid hs
  have hsz : w1.heap.size ≤ (w1.alloc (.cells #[.int .u8 1] 5)).heap.size := hb0.size
  clear hb hb0 hs
  go_wp2_with fail
  refine (u_ok _ r v _ 0 2 w2 HR2.out (by decide) (by decide) (by decide)).mono ?_
  rintro e w3 ⟨rfl, hr, ho⟩
  have HR3 := Lib.hid hr
  have HS3 := Lib.hid (HS2.out.up ho (fun k e => by subst e; omega))
  have HB3 := Lib.hid (HB2.out.trans (ho.below HB2.out.size (fun k e => by subst e; exact hrb)))
  clear hr ho
  rw [show leNum (List.take 2 (List.drop 0 [52, 18, 52, 18, 255])) = 4660 by decide]
  go_wp2_with fail
  refine (b_ok _ r v _ 2 2 w3 HR3.out (by decide) (by decide) (by decide)).mono ?_
  rintro e w4 ⟨rfl, hr, ho⟩
  have HR4 := Lib.hid hr
  have HS4 := Lib.hid (HS3.out.up ho (fun k e => by subst e; omega))
  have HB4 := Lib.hid (HB3.out.trans (ho.below HB3.out.size (fun k e => by subst e; exact hrb)))
  clear hr ho
  rw [show leNum (List.take 2 (List.drop 2 [52, 18, 52, 18, 255])).reverse = 13330 by decide]
  go_wp2_with fail
  refine (i_ok _ r v _ 4 1 w4 HR4.out (by decide) (by decide) (by decide)).mono ?_
  rintro e w5 ⟨rfl, hr, ho⟩
  have HS5 := Lib.hid (HS4.out.up ho (fun k e => by subst e; omega))
  have HB5 := Lib.hid (HB4.out.trans (ho.below HB4.out.size (fun k e => by subst e; exact hrb)))
  clear hr ho
  rw [show sgnNum 1 (leNum (List.take 1 (List.drop 4 [52, 18, 52, 18, 255]))) = -1 by decide]
  go_wp2_with fail
  refine (u_bad _ s u _ 0 2 2 w5 HS5.out (.inr ⟨by omega, by decide, rfl⟩)).mono ?_
  rintro e w6 ⟨x, rfl, hx, hb⟩
  obtain ⟨_, _, rfl, _⟩ := id hx
  have HX := Lib.hid hx
  have HB6 := Lib.hid (HB5.out.trans (hb.mono HB5.out.size))
  clear hb hx
  go_wp2_with fail
  refine (at_any sWire 0 2 w6).mono ?_
  rintro e w7 ⟨⟨g, rfl, hst⟩, hb⟩
  have HX7 := Lib.hid (HX.out.on hb)
  have HST := Lib.hid hst
  have HB7 := Lib.hid (HB6.out.trans (hb.mono HB6.out.size))
  clear hb hst
  go_wp2_with fail
  refine (same_some 2 (by decide) _ _ [(sWire, 0)] w7 (HG.out.up HB7.out) HX7.out HST.out (by decide)).mono ?_
  rintro e w8 ⟨rfl, hb⟩
  have HB8 := Lib.hid (HB7.out.trans (hb.mono HB7.out.size))
  clear hb
  go_wp2_with fail
  refine (new_writer w8).mono ?_
  rintro e w9 ⟨rfl, rfl⟩
  go_wp2_with fail
  refine (wi_bad _ w8.heap.size _ _ 1 128 _ (wrAt_new w8) (by unfold SFits; decide)).mono ?_
  rintro e w9 ⟨x, rfl, hx, hb⟩
  have HB9 := Lib.hid (HB8.out.trans (((below_new w8 _).trans (hb.mono (below_new w8 _).size)).mono HB8.out.size))
  obtain ⟨_, _, rfl, _⟩ := id hx
  have HX := Lib.hid hx
  clear hb hx
  go_wp2_with fail
  refine (of_code [(sWire, 0)] _ 1 w9 (HG.out.up HB9.out) HX.out).mono ?_
  rintro e w10 ⟨rfl, hb⟩
  have HB10 := Lib.hid (HB9.out.trans (hb.mono HB9.out.size))
  clear hb
  go_wp2
  go_ret
  exact ⟨rfl, HB10.out⟩
end Go.Proofs.YtpdngcjgfngnjaaDoor
