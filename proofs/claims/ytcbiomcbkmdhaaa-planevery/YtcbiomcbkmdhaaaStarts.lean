/- yardlaw9.PlanStarts answers true for every row of numbers and every number; older memory stands. -/
import Derived.Test.YtcbiomcbkmdhaaaFirst
namespace Go.Proofs.Ytcbiomcbkmdhaaa
open Go.RowKit Go.Extern.Stop Go.Stop Go.Extern

/-- Plan and copy share no block. -/
theorem apart_row {w w1 w2 : World} {B p B2 q : Nat} {v v2 : Value} {ts ts2 : List (Int × Int)} (h : PlAt w B p v ts) (hB : w.heap.size ≤ B2) (h2 : PlAt w1 B2 q v2 ts2) (ho : Off (fun k => v.ownBlock = some k) w1 w2) : PlAt w2 B2 q v2 ts2 :=
  h2.off ho (fun e => by have := (h.rlt _ e).2; have := h2.base; omega) (fun k e e2 => by have := (h.rlt _ e2).2; have := (h2.rlt _ e).1; omega)
/-- The polls below i are done at now, the others are due at 0. -/
def StTo (ts : List (Int × Int)) (now : Int) (i : Nat) : Prop := (∀ j, j < i → now < dueP ts j) ∧ ∀ j, i ≤ j → dueP ts j = 0
theorem stTo_next {l : List Int} {ts : List (Int × Int)} {now : Int} {i : Nat} (h : StTo ts now i) (hk : PollsOk l ts) (hi : i < l.length) (h0 : 0 ≤ now) : nextP ts now = some i := by
  have hi' : i < ts.length := by rw [hk.len]; exact hi
  have hd := h.2 i (Nat.le_refl _)
  rcases nextP_is ts now with ⟨_, h2⟩ | ⟨n, h1, h2, h3, h4⟩
  · have := h2 i hi'
    omega
  · have hn : i ≤ n := by
      rcases Nat.lt_or_ge n i with h5 | h5
      · have := h.1 n h5; omega
      · exact h5
    have h5 := h.2 n hn
    have h6 := h4 i hi'
    rw [h1]
    congr 1
    omega
theorem stTo_done {l : List Int} {ts : List (Int × Int)} {now : Int} {i : Nat} (h : StTo ts now i) (hk : PollsOk l ts) (hi : i < l.length) (h0 : 0 ≤ now) (h1 : now ≤ 1099511627776) : doneR ts i now ∧ StTo (doneA ts i now) now (i + 1) := by
  have hi' : i < ts.length := by rw [hk.len]; exact hi
  have hr : doneR ts i now := ⟨⟨by omega, by omega⟩, h0, h1⟩
  refine ⟨hr, ?_⟩
  unfold doneA
  rw [if_pos hr, Int.toNat_natCast]
  have he := hk.every i hi
  have hb := every_get hk.2.1 i hi
  refine ⟨fun j hj => ?_, fun j hj => ?_⟩
  · rw [dueP_done _ _ _ _ hi']
    split
    · rw [he]; omega
    · exact h.1 j (by omega)
  · rw [dueP_done _ _ _ _ hi', if_neg (by omega)]
    exact h.2 j (by omega)
theorem new_next0 (l : List Int) : nextP (newP l) 0 = if 0 < l.length then some 0 else none := by
  split
  · rename_i h
    rcases nextP_is (newP l) 0 with ⟨_, h2⟩ | ⟨n, h1, h2, h3, h4⟩
    · have := h2 0 (by rw [newP_length]; exact h)
      rw [newP_due] at this; omega
    · have := h4 0 (by rw [newP_length]; exact h)
      rw [newP_due, newP_due] at this
      rw [h1]; congr 1; omega
  · rename_i h
    have : l = [] := List.length_eq_zero_iff.1 (by omega)
    subst this
    rfl
theorem new_below (l : List Int) : nextP (newP l) (-1) = none := by
  rcases nextP_is (newP l) (-1) with ⟨h, _⟩ | ⟨n, _, _, h3, _⟩
  · exact h
  · rw [newP_due] at h3; omega
/-- The call answers true, and older memory stands. -/
def Fine (w : World) (e : Ending) (w' : World) : Prop := e = .returned (.bool true) ∧ Below w.heap.size w w'

set_option maxRecDepth 100000 in
set_option maxHeartbeats 4000000 in
theorem starts_any (v : Value) (l : List Int) (now : Int) (w : World) (hv : IntsAt w v l) : Calls Try.prog 5 #[v, .int .i64 now] w (Fine w) := by
  have HV := Lib.hid hv
  obtain ⟨ao, cap, rfl, hc⟩ := hv
  clear hc
  by_cases hin : l.length ≤ 16 ∧ 0 ≤ now ∧ now ≤ 549755813888
  · obtain ⟨hl, hn0, hn1⟩ := hin
    have hl' : (l.length : Int) ≤ 16 := by omega
    have HL := Lib.hid hl
    clear hl
    go_enter Try.func5, Try.ntmps5
    go_wp2_with fail
    refine (first_any _).mono ?_
    rintro e wa ⟨rfl, hba⟩
    have BA := Lib.hid hba
    clear hba
    go_wp2_with fail
    refine (new_any _ l wa (HV.out.on BA.out) HL.out).mono ?_
    rintro e w1 (⟨hok, p, v1, rfl, hp, hb⟩ | ⟨j, hj, hbad, _, x, rfl, hx, hb⟩)
    · have K0 := Lib.hid (pollsOk_new hok)
      have A1 := Lib.hid hp
      have B1 := Lib.hid (BA.out.trans (hb.mono BA.out.size))
      clear hp hb hok
      go_wp2_with fail
      refine (copy_any _ p v1 _ w1 A1.out (by rw [newP_length]; have := HL.out; omega)).mono ?_
      rintro e w2 ⟨q, v2, rfl, hq, hb⟩
      have C2 := Lib.hid hq
      have A2 := Lib.hid (A1.out.on hb)
      have B2 := Lib.hid (B1.out.trans (hb.mono B1.out.size))
      clear hq hb
      go_wp2_with fail
      refine (len_any _ p v1 _ w2 A2.out).mono ?_
      rintro e w2' ⟨rfl, rfl⟩
      rw [newP_length]
      have hne : ((l.length : Int) != (l.length : Int)) = false := by simp
      go_wp2_with fail
      go_loopg [8] l.length (fun k s8 wr => ∃ i : Nat, i ≤ l.length ∧ k = l.length - i ∧ s8 = .int .i64 i ∧ Hid (Below w.heap.size w wr ∧ PlAt wr w1.heap.size q v2 (newP l) ∧ ∃ ts, PlAt wr wa.heap.size p v1 ts ∧ PollsOk l ts ∧ StTo ts now i))
      case atStart => exact ⟨0, Nat.zero_le _, rfl, rfl, Lib.hid ⟨B2.out, C2.out, _, A2.out, K0.out, fun j hj => by omega, fun j _ => newP_due l j⟩⟩
      case round =>
        obtain ⟨wo, hwo⟩ : ∃ x, x = wr := ⟨wr, rfl⟩
        subst hwo
        obtain ⟨i, hi, rfl, rfl, hinv⟩ := hrel
        by_cases hlt : i < l.length
        · obtain ⟨hbr, hcq, ts, hpt, hpk, hst⟩ := hinv.out
          have BR := Lib.hid hbr
          have CR := Lib.hid hcq
          have AR := Lib.hid hpt
          have KR := Lib.hid (And.intro hpk hst)
          clear hbr hcq hpt hpk hst hinv
          have hi0 : (0 : Int) ≤ (i : Int) := by omega
          have hil : (i : Int) < (l.length : Int) := by omega
          have hlt' := Lib.hid hlt
          go_wp2_with fail
          refine (due_yes _ q v2 _ i _ CR.out (by rw [newP_length]; exact hlt'.out)).mono ?_
          rintro e w3 ⟨rfl, hb⟩
          rw [newP_due]
          have C3 := Lib.hid (CR.out.on hb)
          have A3 := Lib.hid (AR.out.on hb)
          have B3 := Lib.hid (BR.out.trans (hb.mono BR.out.size))
          clear hb
          go_wp2_with fail
          refine (next_any _ p v1 ts now _ A3.out (by rw [KR.out.1.len]; exact HL.out)).mono ?_
          rintro e w4 ⟨rfl, hb⟩
          rw [stTo_next KR.out.2 KR.out.1 hlt'.out hn0]
          simp only [nextV, Option.getD_some, Option.isSome_some]
          have C4 := Lib.hid (C3.out.on hb)
          have A4 := Lib.hid (A3.out.on hb)
          have B4 := Lib.hid (B3.out.trans (hb.mono B3.out.size))
          clear hb
          have hii : ((i : Int) != (i : Int)) = false := by simp
          go_wp2_with fail
          refine (done_any _ p v1 l ts i now _ A4.out KR.out.1).mono ?_
          rintro e w5 ⟨x, rfl, hp5, ho5, hx⟩
          have hsd := stTo_done KR.out.2 KR.out.1 hlt'.out hn0 (by omega)
          rcases hx with ⟨_, rfl⟩ | ⟨hno, _⟩
          · have HN : Hid (Below w.heap.size w w5 ∧ PlAt w5 w1.heap.size q v2 (newP l) ∧ ∃ ts, PlAt w5 wa.heap.size p v1 ts ∧ PollsOk l ts ∧ StTo ts now (i + 1)) :=
              Lib.hid ⟨B4.out.trans ((off_below A4.out ho5).mono BA.out.size), apart_row (w := w1) A1.out (Nat.le_refl _) C4.out ho5, _, hp5, KR.out.1.doneA _ _, hsd.2⟩
            clear hp5 ho5 hsd
            go_wp2
            go_roundg (l.length - (i + 1))
            case measure => omega
            case rel => exact ⟨i + 1, by omega, rfl, (by first | exact next_int i (by have := HL.out; omega) | exact congrArg _ (by omega)), HN⟩
          · exact absurd hsd.1 hno
        · have hil : (l.length : Int) ≤ (i : Int) := by omega
          obtain ⟨hbr, hcq, _⟩ := hinv.out
          have BR := Lib.hid hbr
          have CR := Lib.hid hcq
          clear hbr hcq hinv
          go_wp2_with fail
          refine (next_any _ q v2 _ 0 _ CR.out (by rw [newP_length]; exact HL.out)).mono ?_
          rintro e w3 ⟨rfl, hb⟩
          have C3 := Lib.hid (CR.out.on hb)
          have B3 := Lib.hid (BR.out.trans (hb.mono BR.out.size))
          clear hb
          rw [new_next0]
          by_cases hz : 0 < l.length
          · have hz' : (0 : Int) < (l.length : Int) := by omega
            have hz2 : decide ((0 : Int) < (l.length : Int)) = true := by simpa using hz'
            rw [if_pos hz]
            simp only [nextV, Option.getD_some, Option.isSome_some]
            go_wp2_with fail
            refine (next_any _ q v2 _ (-1) _ C3.out (by rw [newP_length]; exact HL.out)).mono ?_
            rintro e w4 ⟨rfl, hb⟩
            rw [new_below]
            simp only [nextV, Option.getD_none, Option.isSome_none]
            have B4 := Lib.hid (B3.out.trans (hb.mono B3.out.size))
            clear hb
            go_wp2_with fail
            refine (first_any _).mono ?_
            rintro e w5 ⟨rfl, hb⟩
            have B5 := Lib.hid (B4.out.trans (hb.mono B4.out.size))
            clear hb
            go_wp2
            go_ret
            exact ⟨rfl, B5.out⟩
          · have hz' : (l.length : Int) = 0 := by omega
            have hz2 : decide ((0 : Int) < (l.length : Int)) = false := decide_eq_false (by omega)
            rw [if_neg hz]
            simp only [nextV, Option.getD_none, Option.isSome_none]
            clear hz'
            go_wp2_with fail
            refine (next_any _ q v2 _ (-1) _ C3.out (by rw [newP_length]; exact HL.out)).mono ?_
            rintro e w4 ⟨rfl, hb⟩
            rw [new_below]
            simp only [nextV, Option.getD_none, Option.isSome_none]
            have B4 := Lib.hid (B3.out.trans (hb.mono B3.out.size))
            clear hb
            go_wp2_with fail
            refine (first_any _).mono ?_
            rintro e w5 ⟨rfl, hb⟩
            have B5 := Lib.hid (B4.out.trans (hb.mono B4.out.size))
            clear hb
            go_wp2
            go_ret
            exact ⟨rfl, B5.out⟩
    · have B1 := Lib.hid (BA.out.trans (hb.mono BA.out.size))
      obtain ⟨bx, rfl⟩ := hx.form
      clear hb hx hbad
      go_wp2_with fail
      refine (first_any _).mono ?_
      rintro e w2 ⟨rfl, hb⟩
      have B2 := Lib.hid (B1.out.trans (hb.mono B1.out.size))
      clear hb
      go_wp2
      go_ret
      exact ⟨rfl, B2.out⟩
  · have hcase : (16 : Int) < (l.length : Int) ∨ ((l.length : Int) ≤ 16 ∧ now < 0) ∨ ((l.length : Int) ≤ 16 ∧ 0 ≤ now ∧ 549755813888 < now) := by
      by_cases q1 : (16 : Int) < (l.length : Int)
      · exact .inl q1
      · by_cases q2 : now < 0
        · exact .inr (.inl ⟨by omega, q2⟩)
        · refine .inr (.inr ⟨by omega, by omega, ?_⟩)
          have q3 : ¬ now ≤ 549755813888 := fun q3 => hin ⟨by omega, by omega, q3⟩
          omega
    clear hin
    rcases hcase with h1 | ⟨h1, h2⟩ | ⟨h1, h2, h3⟩ <;> (
      go_enter Try.func5, Try.ntmps5
      go_wp2_with fail
      refine (first_any _).mono ?_
      rintro e wa ⟨rfl, hba⟩
      have BA := Lib.hid hba
      clear hba
      go_wp2_with fail
      refine (first_any _).mono ?_
      rintro e wb ⟨rfl, hb⟩
      have BB := Lib.hid (BA.out.trans (hb.mono BA.out.size))
      clear hb
      go_wp2
      go_ret
      exact ⟨rfl, BB.out⟩)
end Go.Proofs.Ytcbiomcbkmdhaaa
