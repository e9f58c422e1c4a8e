/- wire.Writer.Bytes; yardref.At; yardlaw2.first answers true; all older memory stands. -/
import Derived.Test.YtpocjmlkhophoaaGreatDoorWr
import Derived.Test.YtpocjmlkhophoaaGreatDoorSame
namespace Go.Proofs.YtpocjmlkhophoaaGreatDoor
open Go.RowKit Go.Extern.Stop Go.Stop Go.Extern

set_option maxRecDepth 100000 in
set_option maxHeartbeats 1000000 in
/-- Writer.Bytes. -/
theorem wbytes_any (B b : Nat) (v u : Value) (l m : List UInt8) (w : World) (h : WrAt w B b v l) (hu : BytesAt w u m) (hl : l.length + m.length ≤ 140737488355328) :
    Calls Tryz.prog 47 #[.pointer (some ⟨b, 0, none⟩), u] w fun e w' => e = .returned (.tuple #[]) ∧ PutIs w B b v l m w' := by
  obtain ⟨i0, hi0, hz0, hz1, hz2⟩ := info_parts info5
  have H := Lib.hid h
  have c0 := h.c0
  have f0 := h.f0
  have hown := h.own
  have hBs : B ≤ w.heap.size := Nat.le_trans h.base (Nat.le_of_lt h.lt)
  obtain ⟨ao, cap, rfl⟩ := h.bytes
  obtain ⟨au, cu, rfl, hc⟩ := hu
  cases au with
  | none =>
    have h0 : m = [] := by
      cases m with
      | nil => rfl
      | cons x l => obtain ⟨b, off, e, _⟩ := hc 0 (by simp); cases e
    subst h0
    have hcap : l.length ≤ cap := by
      rcases hown.2 with ⟨hv, h0⟩ | ⟨g, cap', cur, hv, _, _, h1, _⟩
      · rw [h0]; exact Nat.zero_le _
      · simp only [Value.slice.injEq] at hv
        rw [hv.2.2]; exact h1
    have HA : Hid (AppIs w B (.slice ao l.length cap) l [] (.returned (.slice ao l.length cap)) w) := Lib.hid ⟨_, rfl, by rw [List.append_nil]; exact hown, Off.refl _ _, fun k hk => .inl hk⟩
    clear h hc hl hown
    cases ao with
    | none =>
      go_enter Tryz.func47, Tryz.ntmps47
      go_wp2
      go_end0
      exact ⟨rfl, H.out.put HA.out⟩
    | some ad =>
      go_enter Tryz.func47, Tryz.ntmps47
      go_wp2
      go_end0
      exact ⟨rfl, H.out.put HA.out⟩
  | some a =>
    have HC := Lib.hid (bytes_news hc)
    have HO := Lib.hid hown
    clear hc h hown
    go_enter Tryz.func47, Tryz.ntmps47
    go_wp2_with (at_builtin; refine wpList_append_own_at _ rfl _ _ 37 rfl B 5 i0 _ 1 1 Tryz.underlying37 hi0 hz0 hz1 hz2 rfl (by omega) _ l.length (bcells l) rfl HO.out a m.length cu (bcells m) rfl ?qc1 HC.out (bcells_one m) ?qc4 ?qc5 hBs ?_)
    case qc1 => rw [bcells_length]; omega
    case qc4 => unfold maxLen; omega
    case qc5 => omega
    intro v' w1 ho hgrow hnil hat
    have HA : Hid (AppIs w B (.slice ao l.length cap) l m (.returned v') w1) := Lib.hid ⟨_, rfl, by rw [List.length_append, bcells_append]; exact ho, Off.of_grown hgrow, fun k hk => by
      rcases hat with h | h
      · exact .inl (by rw [← h]; exact hk)
      · right
        rw [h] at hk
        simp at hk
        omega⟩
    have hbw : w1.heap[b]? = some (.cells #[.slice ao l.length cap] 136 (0, 0)) := (hgrow.block b H.out.lt (fun e => row_no H.out.own H.out.obj (by decide) e.symm)).trans H.out.obj
    have c1 : w1.cell? ⟨b, 0, none⟩ = some (.slice ao l.length cap) := by rw [cell_of_row _ _ _ _ _ _ hbw]; rfl
    have f1 : w1.frozen? ⟨b, 0, none⟩ = false := frozen_of_row _ _ _ _ _ hbw
    obtain ⟨av', cv', hv'⟩ : ∃ av cv, v' = .slice av (l.length + m.length) cv := by
      rcases ho.2 with ⟨hv, h0⟩ | ⟨g, cap', cur, hv, _⟩
      · exact ⟨none, 0, by rw [hv, h0]⟩
      · exact ⟨_, _, hv⟩
    subst hv'
    clear ho hgrow hnil hat hbw c0 f0
    go_wp2
    go_end0
    exact ⟨rfl, H.out.put HA.out⟩

theorem at_any (s : ByteArray) (p c : Int) (w : World) : Calls Tryz.prog 39 #[.string s, .int .i64 p, .int .i64 c] w fun e w' => (∃ g : Nat, e = .returned (.agg #[.int .i64 c, .slice (some ⟨g, 0, none⟩) 1 1]) ∧ StepsOwn w' (.slice (some ⟨g, 0, none⟩) 1 1) [(s, p)]) ∧ Below w.heap.size w w' := by
  go_enter Tryz.func39, Tryz.ntmps39
  go_wp2
  refine bodyPost_ret (v := .agg #[.int .i64 c, .slice (some ⟨w.heap.size + 1, 0, none⟩) 1 1]) ?_ rfl ⟨⟨w.heap.size + 1, rfl, ?_⟩, ?_⟩
  · simp [results, Tryz.results39, go_sem]
  · refine ⟨some ⟨w.heap.size + 1, 0, none⟩, 1, rfl, fun i hi => ?_⟩
    have hi0 : i = 0 := by simpa using hi
    subst hi0
    exact ⟨w.heap.size + 1, rfl, by simp, by simp, by simp⟩
  · exact two_belowW _ _ _

theorem lit5 (w : World) : BytesAt (w.alloc (.cells #[.int .u8 52, .int .u8 18, .int .u8 52, .int .u8 18, .int .u8 255] 5)) (.slice (some ⟨w.heap.size, 0, none⟩) 5 5) [52, 18, 52, 18, 255] := by
  refine ⟨some ⟨w.heap.size, 0, none⟩, 5, rfl, fun i hi => ⟨w.heap.size, 0, rfl, ?_⟩⟩
  match i, hi with
  | 0, _ => simp
  | 1, _ => simp
  | 2, _ => simp
  | 3, _ => simp
  | 4, _ => simp
  | i + 5, hi => exact absurd hi (by simp)
theorem lit1 (w : World) : BytesAt (w.alloc (.cells #[.int .u8 1] 5)) (.slice (some ⟨w.heap.size, 0, none⟩) 1 1) [1] := by
  refine ⟨some ⟨w.heap.size, 0, none⟩, 1, rfl, fun i hi => ⟨w.heap.size, 0, rfl, ?_⟩⟩
  match i, hi with
  | 0, _ => simp
  | i + 1, hi => simp at hi

theorem bytesAt_news {w : World} {a : Addr} {n c : Nat} {l : List UInt8} (h : BytesAt w (.slice (some a) n c) l) : ∀ j u, (bcells l)[j]? = some u → w.cell? (a.add j) = some u := by
  obtain ⟨ao, cap, e, hc⟩ := h
  simp only [Value.slice.injEq] at e
  obtain ⟨rfl, _, _⟩ := e
  exact bytes_news hc

theorem row_cap {w : World} {base n c : Nat} {a : Option Addr} {xs : List Value} (h : w.ownsRow base 5 1 (.slice a n c) n xs) : n ≤ c := by
  rcases h.2 with ⟨hv, h0⟩ | ⟨g, cap', cur, hv, _, _, h1, _⟩
  · rw [h0]; exact Nat.zero_le _
  · simp only [Value.slice.injEq] at hv
    rw [hv.2.2]; exact h1

theorem row_lit {w : World} {base n : Nat} {v : Value} {xs : List Value} (h : w.ownsRow base 5 1 v n xs) (hn : 0 < n) : ∃ g c, v = .slice (some ⟨g, 0, none⟩) n c ∧ base ≤ g ∧ g < w.heap.size := h.form hn
theorem row_form {w : World} {base n : Nat} {v : Value} {xs : List Value} (h : w.ownsRow base 5 1 v n xs) : ∃ a c, v = .slice a n c := by
  rcases h.2 with ⟨hv, h0⟩ | ⟨g, cap, cur, hv, _⟩
  · exact ⟨none, 0, by rw [hv, h0]⟩
  · exact ⟨_, _, hv⟩
theorem bytes_nil (W : World) (ao : Option Addr) (c : Nat) : BytesAt W (.slice ao 0 c) [] := ⟨ao, c, rfl, fun i hi => by simp at hi⟩
end Go.Proofs.YtpocjmlkhophoaaGreatDoor
