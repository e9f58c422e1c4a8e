/- yardlaw9.PlanEvery answers true for every three numbers; older memory stands. -/
import Derived.Test.YtcbiomcbkmdhaaaStarts
namespace Go.Proofs.Ytcbiomcbkmdhaaa
open Go.RowKit Go.Extern.Stop Go.Stop Go.Extern

/-- A poll of the interval a that is done as soon as it is told is due at the next multiple of a. -/
def Mult (a now d : Int) : Prop := now ≤ d ∧ d < now + a ∧ d % a = 0
theorem mult_zero {a : Int} (h : 1 ≤ a) : Mult a 0 0 := ⟨by omega, by omega, by simp⟩
theorem mult_hit {a now d : Int} (h : Mult a now d) : (d = now ↔ now % a = 0) := by
  constructor
  · rintro rfl; exact h.2.2
  · intro hm
    obtain ⟨h2, h3, h4⟩ := h
    have h5 : (d - now) % a = 0 := by rw [Int.sub_emod, h4, hm]; simp
    have h6 : (d - now) % a = d - now := Int.emod_eq_of_lt (by omega) (by omega)
    omega
/-- When it is due after the tick. -/
def aft (a now d : Int) : Int := if d = now then now + a else d
theorem mult_next {a now d : Int} (h : Mult a now d) : Mult a (now + 1) (aft a now d) := by
  obtain ⟨h2, h3, h4⟩ := h
  unfold aft
  split
  · rename_i e
    subst e
    exact ⟨by omega, by omega, by rw [Int.add_emod_right]; exact h4⟩
  · exact ⟨by omega, by omega, h4⟩
/-- Within a tick: which of the two has been done. -/
structure Mid (a b now da db : Int) (x y : Bool) (k : Nat) (ts : List (Int × Int)) : Prop where
  hk : k = (if x then 1 else 0) + (if y then 1 else 0)
  hx : x = true → da = now
  hy : y = true → db = now
  d0 : dueP ts 0 = if x then now + a else da
  d1 : dueP ts 1 = if y then now + b else db
theorem next_two {ts : List (Int × Int)} {now : Int} (hl : ts.length = 2) : nextP ts now = if dueP ts 0 ≤ now ∧ dueP ts 0 ≤ dueP ts 1 then some 0 else if dueP ts 1 ≤ now then some 1 else none := by
  rcases nextP_is ts now with ⟨h1, h2⟩ | ⟨n, h1, h2, h3, h4⟩
  · have e0 := h2 0 (by omega)
    have e1 := h2 1 (by omega)
    rw [h1, if_neg (by omega), if_neg (by omega)]
  · have e0 := h4 0 (by omega)
    have e1 := h4 1 (by omega)
    rw [h1]
    rcases (show n = 0 ∨ n = 1 by omega) with rfl | rfl
    · rw [if_pos (by omega)]
    · rw [if_neg (by omega), if_pos h3]
/-- What the next round of a tick meets. -/
theorem mid_next {a b now da db : Int} {x y : Bool} {k : Nat} {ts : List (Int × Int)} (h : Mid a b now da db x y k ts) (hk : PollsOk [a, b] ts) (ha : now ≤ da) (hb : now ≤ db) (h0 : 0 ≤ now) (h1 : now ≤ 300) :
    (nextP ts now = none ∧ (x = true ↔ da = now) ∧ (y = true ↔ db = now)) ∨
    (nextP ts now = some 0 ∧ x = false ∧ k < 2 ∧ doneR ts 0 now ∧ Mid a b now da db true y (k + 1) (doneA ts 0 now)) ∨
    (nextP ts now = some 1 ∧ y = false ∧ k < 2 ∧ doneR ts 1 now ∧ Mid a b now da db x true (k + 1) (doneA ts 1 now)) := by
  have hl : ts.length = 2 := hk.len
  have e0 := every_get hk.2.1 0 (by simp)
  have e1 := every_get hk.2.1 1 (by simp)
  have g0 := hk.every 0 (by simp)
  have g1 := hk.every 1 (by simp)
  simp only [List.getElem_cons_zero, List.getElem_cons_succ] at e0 e1 g0 g1
  have r0 : doneR ts 0 now := ⟨⟨by omega, by omega⟩, h0, by omega⟩
  have r1 : doneR ts 1 now := ⟨⟨by omega, by omega⟩, h0, by omega⟩
  have a0 : doneA ts 0 now = doneP ts 0 now := by unfold doneA; rw [if_pos r0]; rfl
  have a1 : doneA ts 1 now = doneP ts 1 now := by unfold doneA; rw [if_pos r1]; rfl
  have d00 := dueP_done ts 0 0 now (by omega)
  have d01 := dueP_done ts 0 1 now (by omega)
  have d10 := dueP_done ts 1 0 now (by omega)
  have d11 := dueP_done ts 1 1 now (by omega)
  simp at d00 d01 d10 d11
  simp at g0 g1
  rw [next_two hl]
  obtain ⟨hk', hx, hy, hd0, hd1⟩ := h
  cases x <;> cases y <;> simp at hk' hx hy hd0 hd1
  · subst hk'
    by_cases q0 : da = now
    · refine .inr (.inl ⟨by rw [if_pos ⟨by omega, by omega⟩], rfl, by omega, r0, ?_⟩)
      rw [a0]
      exact ⟨by simp, fun _ => q0, by simp, by rw [d00, g0]; simp, by rw [d01, hd1]; simp⟩
    · by_cases q1 : db = now
      · refine .inr (.inr ⟨by rw [if_neg (by omega), if_pos (by omega)], rfl, by omega, r1, ?_⟩)
        rw [a1]
        exact ⟨by simp, by simp, fun _ => q1, by rw [d10, hd0]; simp, by rw [d11, g1]; simp⟩
      · exact .inl ⟨by rw [if_neg (by omega), if_neg (by omega)], by simpa using q0, by simpa using q1⟩
  · subst hk'
    by_cases q0 : da = now
    · refine .inr (.inl ⟨by rw [if_pos ⟨by omega, by omega⟩], rfl, by omega, r0, ?_⟩)
      rw [a0]
      exact ⟨by simp, fun _ => q0, fun _ => hy, by rw [d00, g0]; simp, by rw [d01, hd1]; simp⟩
    · exact .inl ⟨by rw [if_neg (by omega), if_neg (by omega)], by simpa using q0, by simpa using hy⟩
  · subst hk'
    by_cases q1 : db = now
    · refine .inr (.inr ⟨by rw [if_neg (by omega), if_pos (by omega)], rfl, by omega, r1, ?_⟩)
      rw [a1]
      exact ⟨by simp, fun _ => hx, fun _ => q1, by rw [d10, hd0]; simp, by rw [d11, g1]; simp⟩
    · exact .inl ⟨by rw [if_neg (by omega), if_neg (by omega)], by simpa using hx, by simpa using q1⟩
  · exact .inl ⟨by rw [if_neg (by omega), if_neg (by omega)], by simpa using hx, by simpa using hy⟩
theorem mid_start {a b now da db : Int} {ts : List (Int × Int)} (h0 : dueP ts 0 = da) (h1 : dueP ts 1 = db) : Mid a b now da db false false 0 ts := ⟨rfl, by simp, by simp, by simpa using h0, by simpa using h1⟩
theorem mid_end {a b now da db : Int} {x y : Bool} {k : Nat} {ts : List (Int × Int)} (h : Mid a b now da db x y k ts) (hx : x = true ↔ da = now) (hy : y = true ↔ db = now) : dueP ts 0 = aft a now da ∧ dueP ts 1 = aft b now db := by
  refine ⟨?_, ?_⟩
  · rw [h.d0]
    unfold aft
    by_cases q : da = now
    · rw [if_pos (hx.2 q), if_pos q]
    · rw [if_neg (fun e => q (hx.1 e)), if_neg q]
  · rw [h.d1]
    unfold aft
    by_cases q : db = now
    · rw [if_pos (hy.2 q), if_pos q]
    · rw [if_neg (fun e => q (hy.1 e)), if_neg q]
/-- The Plan between two ticks. -/
def Tk (W wa : World) (p : Nat) (v : Value) (a b now : Int) (wr : World) : Prop := Below W.heap.size W wr ∧ ∃ ts, PlAt wr wa.heap.size p v ts ∧ PollsOk [a, b] ts ∧ Mult a now (dueP ts 0) ∧ Mult b now (dueP ts 1)
/-- .. and within one. -/
def Tm (W wa : World) (p : Nat) (v : Value) (a b now da db : Int) (x y : Bool) (k : Nat) (wr : World) : Prop := Below W.heap.size W wr ∧ ∃ ts, PlAt wr wa.heap.size p v ts ∧ PollsOk [a, b] ts ∧ Mid a b now da db x y k ts

set_option maxRecDepth 100000 in
set_option maxHeartbeats 8000000 in
theorem every_in (a b n : Int) (w : World) (hn0 : 0 ≤ n) (hn1 : n ≤ 300) : Calls Try.prog 6 #[.int .i64 a, .int .i64 b, .int .i64 n] w (Fine w) := by
  obtain ⟨N, rfl⟩ : ∃ N : Nat, n = (N : Int) := ⟨n.toNat, by omega⟩
  go_enter Try.func6, Try.ntmps6
  go_wp2_with fail
  refine (first_any _).mono ?_
  rintro e wa ⟨rfl, hba⟩
  have BA := Lib.hid hba
  have LA := Lib.hid (lit_ints2 wa a b)
  have NA : Hid (Below wa.heap.size wa (wa.alloc (.cells #[.int .i64 a, .int .i64 b] 3))) := Lib.hid (below_new _ _)
  clear hba
  go_wp2_with fail
  refine (new_any _ [a, b] _ LA.out (by simp)).mono ?_
  generalize wa.alloc (.cells #[.int .i64 a, .int .i64 b] 3) = wl at *
  have BL := Lib.hid (BA.out.trans (NA.out.mono BA.out.size))
  rintro e w1 (⟨hok, p, v1, rfl, hp, hb⟩ | ⟨j, hj, hbad, htk, x, rfl, hx, hb⟩)
  · have ha := every_get hok 0 (by simp)
    have hbb := every_get hok 1 (by simp)
    simp only [List.getElem_cons_zero, List.getElem_cons_succ] at ha hbb
    obtain ⟨ha1, ha2⟩ := ha
    obtain ⟨hb1, hb2⟩ := hbb
    have T1 : Hid (Tk w wl p v1 a b ((0 : Nat) : Int) w1) := Lib.hid ⟨BL.out.trans (hb.mono BL.out.size), _, hp, pollsOk_new hok, by rw [newP_due]; exact mult_zero ha1, by rw [newP_due]; exact mult_zero hb1⟩
    have SL := Lib.hid BL.out.size
    clear hp hb hok
    go_wp2_with fail
    go_loopg [9] N (fun k s9 wr => ∃ i : Nat, i ≤ N ∧ k = N - i ∧ s9 = .int .i64 (i : Int) ∧ Hid (Tk w wl p v1 a b (i : Int) wr))
    case atStart => exact ⟨0, Nat.zero_le _, rfl, rfl, T1⟩
    case round =>
      obtain ⟨wo, hwo⟩ : ∃ x, x = wr := ⟨wr, rfl⟩
      subst hwo
      obtain ⟨i, hi, rfl, rfl, hinv⟩ := hrel
      by_cases hlt : i < N
      · have hil : (i : Int) < (N : Int) := by omega
        have hi0 : (0 : Int) ≤ (i : Int) := by omega
        obtain ⟨hbr, ts, hpt, hpk, hma, hmb⟩ := hinv.out
        obtain ⟨da, hda⟩ : ∃ da, dueP ts 0 = da := ⟨_, rfl⟩
        obtain ⟨db, hdb⟩ : ∃ db, dueP ts 1 = db := ⟨_, rfl⟩
        rw [hda] at hma
        rw [hdb] at hmb
        have TM : Hid (Tm w wl p v1 a b (i : Int) da db false false 0 wo) := Lib.hid ⟨hbr, ts, hpt, hpk, mid_start hda hdb⟩
        have MM := Lib.hid (And.intro hma hmb)
        have HN := Lib.hid (And.intro hn1 hlt)
        clear hbr hpt hpk hma hmb hda hdb hinv
        go_wp2_with fail
        go_loopg [10, 11, 12] 3 (fun k s10 s11 s12 wr => ∃ (j : Nat) (x y : Bool), j ≤ 2 ∧ k = 3 - j ∧ s10 = .bool x ∧ s11 = .bool y ∧ s12 = .int .i64 (j : Int) ∧ Hid (Tm w wl p v1 a b (i : Int) da db x y j wr))
        case atStart => exact ⟨0, false, false, by omega, rfl, rfl, rfl, rfl, TM⟩
        case round =>
          obtain ⟨wi, hwi⟩ : ∃ x, x = wr := ⟨wr, rfl⟩
          subst hwi
          obtain ⟨j, x, y, hj, rfl, rfl, rfl, rfl, hir⟩ := hrel
          obtain ⟨hbr, ts, hpt, hpk, hmid⟩ := hir.out
          have BR := Lib.hid hbr
          have AR := Lib.hid hpt
          have KR := Lib.hid hpk
          have MD := Lib.hid hmid
          have hj3 : (j : Int) < 3 := by omega
          clear hbr hpt hpk hmid hir
          go_wp2_with fail
          refine (next_any _ p v1 ts (i : Int) _ AR.out (by rw [KR.out.len]; simp)).mono ?_
          rintro e w2 ⟨rfl, hb⟩
          have A2 := Lib.hid (AR.out.on hb)
          have B2 := Lib.hid (BR.out.trans (hb.mono BR.out.size))
          clear hb
          rcases mid_next MD.out KR.out MM.out.1.1 MM.out.2.1 hi0 (by have := HN.out; omega) with ⟨hn, hx, hy⟩ | ⟨hn, rfl, hj2, hr, hm⟩ | ⟨hn, rfl, hj2, hr, hm⟩
          · rw [hn]
            simp only [nextV, Option.getD_none, Option.isSome_none]
            have hda : (x = true ↔ (i : Int) % a = 0) := by rw [hx]; exact mult_hit MM.out.1
            have hdb : (y = true ↔ (i : Int) % b = 0) := by rw [hy]; exact mult_hit MM.out.2
            have HT : Hid (Tk w wl p v1 a b ((i + 1 : Nat) : Int) w2) := Lib.hid (by
              have he := mid_end MD.out hx hy
              refine ⟨B2.out, ts, A2.out, KR.out, ?_, ?_⟩
              · rw [he.1]; exact mult_next MM.out.1
              · rw [he.2]; exact mult_next MM.out.2)
            have HX : ((i : Int) % a == 0) = x := by
              cases x
              · simp at hda ⊢; exact hda
              · simp at hda ⊢; exact hda
            have HY : ((i : Int) % b == 0) = y := by
              cases y
              · simp at hdb ⊢; exact hdb
              · simp at hdb ⊢; exact hdb
            clear hn hx hy hda hdb
            have hxx : (x != x) = false := by simp
            have hyy : (y != y) = false := by simp
            have ha0 : a ≠ 0 := by omega
            have hb0 : b ≠ 0 := by omega
            go_wp2
            go_roundg (N - (i + 1))
            case measure => omega
            case rel => exact ⟨i + 1, by omega, rfl, (by first | exact next_int i (by have := HN.out; omega) | exact congrArg _ (by omega)), HT⟩
          · rw [hn, show nextV (some 0) = .tuple #[.int .i64 0, .bool true] from rfl]
            have hj2' : ((j : Int) == 2) = false := beq_eq_false_iff_ne.2 (by omega)
            have HM := Lib.hid (And.intro hr hm)
            clear hn hr hm
            cases y <;> (
              go_wp2_with fail
              refine (done_any _ p v1 [a, b] ts 0 (i : Int) _ A2.out KR.out).mono ?_
              rintro e w3 ⟨x', rfl, hp3, ho3, hx3⟩
              rcases hx3 with ⟨_, rfl⟩ | ⟨hno, _⟩
              · have HT : Hid (Tm w wl p v1 a b (i : Int) da db true _ (j + 1) w3) := Lib.hid ⟨B2.out.trans ((off_below A2.out ho3).mono SL.out), _, hp3, KR.out.doneA _ _, HM.out.2⟩
                clear hp3 ho3
                go_wp2
                go_roundg (3 - (j + 1))
                case measure => omega
                case rel => exact ⟨j + 1, _, _, by omega, rfl, rfl, rfl, (by first | exact next_int j (by omega) | exact congrArg _ (by omega)), HT⟩
              · exact absurd HM.out.1 hno)
          · rw [hn, show nextV (some 1) = .tuple #[.int .i64 1, .bool true] from rfl]
            have hj2' : ((j : Int) == 2) = false := beq_eq_false_iff_ne.2 (by omega)
            have HM := Lib.hid (And.intro hr hm)
            clear hn hr hm
            cases x <;> (
              go_wp2_with fail
              refine (done_any _ p v1 [a, b] ts 1 (i : Int) _ A2.out KR.out).mono ?_
              rintro e w3 ⟨x', rfl, hp3, ho3, hx3⟩
              rcases hx3 with ⟨_, rfl⟩ | ⟨hno, _⟩
              · have HT : Hid (Tm w wl p v1 a b (i : Int) da db _ true (j + 1) w3) := Lib.hid ⟨B2.out.trans ((off_below A2.out ho3).mono SL.out), _, hp3, KR.out.doneA _ _, HM.out.2⟩
                clear hp3 ho3
                go_wp2
                go_roundg (3 - (j + 1))
                case measure => omega
                case rel => exact ⟨j + 1, _, _, by omega, rfl, rfl, rfl, (by first | exact next_int j (by omega) | exact congrArg _ (by omega)), HT⟩
              · exact absurd HM.out.1 hno)
      · have hil : (N : Int) ≤ (i : Int) := by omega
        obtain ⟨hbr, _⟩ := hinv.out
        have BR := Lib.hid hbr
        clear hbr hinv
        go_wp2_with fail
        refine (first_any _).mono ?_
        rintro e w5 ⟨rfl, hb⟩
        have B5 := Lib.hid (BR.out.trans (hb.mono BR.out.size))
        clear hb
        go_wp2
        go_ret
        exact ⟨rfl, B5.out⟩
  · have B1 := Lib.hid (BL.out.trans (hb.mono BL.out.size))
    obtain ⟨bx, rfl⟩ := hx.form
    have hw : a < 1 ∨ (1 ≤ a ∧ 10000 < a) ∨ (1 ≤ a ∧ a ≤ 10000 ∧ b < 1) ∨ (1 ≤ a ∧ a ≤ 10000 ∧ 1 ≤ b ∧ 10000 < b) := by
      rcases (show j = 0 ∨ j = 1 by simp at hj; omega) with rfl | rfl
      · simp at hbad
        omega
      · have h0 := htk a (by simp)
        simp at hbad
        omega
    clear hb hx hbad htk
    rcases hw with h1 | ⟨h1, h2⟩ | ⟨h1, h2, h3⟩ | ⟨h1, h2, h3, h4⟩ <;> (
      go_wp2_with fail
      refine (first_any _).mono ?_
      rintro e w2 ⟨rfl, hb⟩
      have B2 := Lib.hid (B1.out.trans (hb.mono B1.out.size))
      clear hb
      go_wp2
      go_ret
      exact ⟨rfl, B2.out⟩)
theorem every_any (a b n : Int) (w : World) : Calls Try.prog 6 #[.int .i64 a, .int .i64 b, .int .i64 n] w (Fine w) := by
  by_cases h0 : 0 ≤ n
  · by_cases h1 : n ≤ 300
    · exact every_in a b n w h0 h1
    · go_enter Try.func6, Try.ntmps6
      go_wp2_with fail
      refine (first_any _).mono ?_
      rintro e wa ⟨rfl, hba⟩
      have BA := Lib.hid hba
      clear hba
      go_wp2_with fail
      refine (first_any _).mono ?_
      rintro e wb ⟨rfl, hb⟩
      have BB := Lib.hid (BA.out.trans (hb.mono BA.out.size))
      clear hb
      go_wp2
      go_ret
      exact ⟨rfl, BB.out⟩
  · go_enter Try.func6, Try.ntmps6
    go_wp2_with fail
    refine (first_any _).mono ?_
    rintro e wa ⟨rfl, hba⟩
    have BA := Lib.hid hba
    clear hba
    go_wp2_with fail
    refine (first_any _).mono ?_
    rintro e wb ⟨rfl, hb⟩
    have BB := Lib.hid (BA.out.trans (hb.mono BA.out.size))
    clear hb
    go_wp2
    go_ret
    exact ⟨rfl, BB.out⟩
end Go.Proofs.Ytcbiomcbkmdhaaa
