/- yardlaw9.PlanFair answers true for every row of numbers, every list of calls and every number; older memory stands. -/
import Derived.Test.YtcbiomcbkmdhaaaFairP
namespace Go.Proofs.Ytcbiomcbkmdhaaa
open Go.RowKit Go.Extern.Stop Go.Stop Go.Extern

/-- The Plan with those polls, and older memory. -/
def PlanTs (W wa : World) (p : Nat) (v : Value) (ts : List (Int × Int)) (wr : World) : Prop := Below W.heap.size W wr ∧ PlAt wr wa.heap.size p v ts
/-- .. and the row of what is met. -/
def FairHas (W wa : World) (p : Nat) (v : Value) (l : List Int) (B g c : Nat) (now L : Int) (k : Nat) (wr : World) : Prop :=
  ∃ ts ms, Below W.heap.size W wr ∧ PlAt wr wa.heap.size p v ts ∧ PollsOk l ts ∧ wr.ownsRow B 4 1 (.slice (some ⟨g, 0, none⟩) l.length c) l.length (mcells ms) ∧ Fair l.length ts ms now L k

set_option maxRecDepth 100000 in
set_option maxHeartbeats 8000000 in
theorem fair_in (ao oo : Option Addr) (cap ocap : Nat) (l : List Int) (ops : List OpV) (now : Int) (w : World) (hv : IntsAt w (.slice ao l.length cap) l) (hvo : OpsAt w (.slice oo ops.length ocap) ops) (hl : l.length ≤ 16) (hol : ops.length ≤ 200) (hn0 : 0 ≤ now) (hn1 : now ≤ 549755813888) :
    Calls Try.prog 3 #[.slice ao l.length cap, .slice oo ops.length ocap, .int .i64 now] w (Fine w) := by
  obtain ⟨i0, hi0, hz0, hz1, hz2⟩ := info4p
  have HV := Lib.hid hv
  have HO := Lib.hid hvo
  have hl' : (l.length : Int) ≤ 16 := by omega
  have hol' : (ops.length : Int) ≤ 200 := by omega
  have HL := Lib.hid (And.intro hl hol)
  clear hv hvo hl hol
  go_enter Try.func3, Try.ntmps3
  go_wp2_with fail
  refine (first_any _).mono ?_
  rintro e wa ⟨rfl, hba⟩
  have BA := Lib.hid hba
  clear hba
  go_wp2_with fail
  refine (new_any _ l wa (HV.out.on BA.out) HL.out.1).mono ?_
  rintro e w1 (⟨hok, p, v1, rfl, hp, hb⟩ | ⟨j, hj, hbad, _, x, rfl, hx, hb⟩)
  · have T1 : Hid (PlanHas w wa p v1 l w1) := Lib.hid ⟨BA.out.trans (hb.mono BA.out.size), _, hp, pollsOk_new hok⟩
    clear hp hb hok
    go_wp2_with fail
    go_loopg [9] ops.length (fun k s9 wr => ∃ i : Nat, i ≤ ops.length ∧ k = ops.length - i ∧ s9 = .int .i64 (i : Int) ∧ Hid (PlanHas w wa p v1 l wr))
    case atStart => exact ⟨0, Nat.zero_le _, rfl, rfl, T1⟩
    case round =>
      obtain ⟨wo, hwo⟩ : ∃ x, x = wr := ⟨wr, rfl⟩
      subst hwo
      obtain ⟨i, hi, rfl, rfl, hinv⟩ := hrel
      by_cases hlt : i < ops.length
      · have hil : (i : Int) < (ops.length : Int) := by omega
        have hi0' : (0 : Int) ≤ (i : Int) := by omega
        obtain ⟨bo, off, hbo, hco⟩ := HO.out.each i hlt
        subst hbo
        obtain ⟨I, hI⟩ : ∃ I, I = ops[i].n := ⟨_, rfl⟩
        obtain ⟨N, hN⟩ : ∃ N, N = ops[i].a := ⟨_, rfl⟩
        rw [← hI, ← hN] at hco
        obtain ⟨hbr, ts, hpt, hpk⟩ := hinv.out
        obtain ⟨_, x1, x2⟩ := hco _ hbr
        have KR := Lib.hid hpk
        have AR := Lib.hid hpt
        have BR := Lib.hid hbr
        clear hco hI hN hbr hpt hpk hinv
        go_wp2
        go_still_tail 11, (by kernel_rfl)
        go_wp2_with fail
        refine (done_any _ p v1 l ts I N _ (AR.out.on (below_drew _ _)) KR.out).mono ?_
        rintro e w3 ⟨f, rfl, hp3, ho3, hx3⟩
        have HP : Hid (PlanHas w wa p v1 l w3) := Lib.hid ⟨(BR.out.trans ((below_drew _ 1).mono BR.out.size)).trans ((off_below (AR.out.on (below_drew _ _)) ho3).mono BA.out.size), _, hp3, KR.out.doneA _ _⟩
        clear hp3 ho3 hx3
        go_wp2
        go_roundg (ops.length - (i + 1))
        case measure => omega
        case rel => exact ⟨i + 1, by omega, rfl, (by first | exact next_int i (by have := HL.out; omega) | exact congrArg _ (by omega)), HP⟩
      · have hil : (ops.length : Int) ≤ (i : Int) := by omega
        obtain ⟨hbr, ts, hpt, hpk⟩ := hinv.out
        have HP : Hid (PlanTs w wa p v1 ts wo) := Lib.hid ⟨hbr, hpt⟩
        have KR := Lib.hid hpk
        clear hbr hpt hpk hinv
        go_wp2_with fail
        go_loopg [10] l.length (fun k s10 wr => ∃ m : Nat, m ≤ l.length ∧ k = l.length - m ∧ s10 = .int .i64 (m : Int) ∧ Hid (∀ j, j < m → dueP ts j ≤ now) ∧ Hid (PlanTs w wa p v1 ts wr))
        case atStart => exact ⟨0, Nat.zero_le _, rfl, rfl, Lib.hid (fun j hj => absurd hj (Nat.not_lt_zero j)), HP⟩
        case round =>
          obtain ⟨wk, hwk⟩ : ∃ x, x = wr := ⟨wr, rfl⟩
          subst hwk
          obtain ⟨m, hm, rfl, rfl, hall, hck⟩ := hrel
          by_cases hml : m < l.length
          · have hml' : (m : Int) < (l.length : Int) := by omega
            have HML := Lib.hid hml
            clear hml
            go_wp2_with fail
            refine (due_yes _ p v1 _ m _ hck.out.2 (by rw [KR.out.len]; exact HML.out)).mono ?_
            rintro e w4 ⟨rfl, hb⟩
            have C4 : Hid (PlanTs w wa p v1 ts w4) := Lib.hid ⟨hck.out.1.trans (hb.mono hck.out.1.size), hck.out.2.on hb⟩
            clear hb hck
            obtain ⟨D, hD⟩ : ∃ D, dueP ts m = D := ⟨_, rfl⟩
            have HD := Lib.hid hD
            rw [hD]
            clear hD
            by_cases hd : D ≤ now
            · have hn : Hid (∀ j, j < m + 1 → dueP ts j ≤ now) := Lib.hid (fun j hj => by
                rcases Nat.lt_or_ge j m with h1 | h1
                · exact hall.out j h1
                · have : j = m := by omega
                  subst this
                  rw [HD.out]; exact hd)
              clear hall
              go_wp2
              go_roundg (l.length - (m + 1))
              case measure => omega
              case rel => exact ⟨m + 1, by omega, rfl, (by first | exact next_int m (by have := HL.out; omega) | exact congrArg _ (by omega)), hn, C4⟩
            · have hd2 : now < D := by omega
              clear hall hd
              go_wp2_with fail
              refine (first_any _).mono ?_
              rintro e w5 ⟨rfl, hb⟩
              have B5 := Lib.hid (C4.out.1.trans (hb.mono C4.out.1.size))
              clear hb
              go_wp2
              go_ret
              exact ⟨rfl, B5.out⟩
          · have hml' : (l.length : Int) ≤ (m : Int) := by omega
            have hme : m = l.length := by omega
            subst hme
            obtain ⟨w0, hr, ho, hg⟩ := run_makeSlice_full (P := Try.prog) wk wk.heap.size 35 4 i0 _ 1 Try.underlying35 hi0 hz0 hz1 .i64 .i64 l.length (by have := HL.out; omega) (by rw [hz2]; have := HL.out; omega) (by unfold maxLen; have := HL.out; omega) (Nat.le_refl _)
            rw [made_bools] at ho
            have hbl : Below wk.heap.size wk w0 := ⟨hg.os, hg.tape, hg.output, hg.size, fun k hk => hg.block k hk (by simp)⟩
            have HF : Hid (FairHas w wa p v1 l wk.heap.size wk.heap.size l.length now (-1) 0 w0) := Lib.hid ⟨ts, _, hck.out.1.trans (hbl.mono hck.out.1.size), hck.out.2.on hbl, KR.out, ho, fair_start hall.out (fun j => (KR.out.2.2 j).1)⟩
            have SB := Lib.hid hck.out.1.size
            clear ho hg hbl hck hall hm
            go_wp2
            generalize wk.heap.size = G at *
            go_loopg [14, 15] l.length (fun k s14 s15 wr => ∃ (n : Nat) (L : Int), n ≤ l.length ∧ k = l.length - n ∧ s14 = .int .i64 L ∧ s15 = .int .i64 (n : Int) ∧ Hid (FairHas w wa p v1 l G G l.length now L n wr))
            case atStart => exact ⟨0, -1, Nat.zero_le _, rfl, rfl, rfl, HF⟩
            case round =>
              obtain ⟨wi, hwi⟩ : ∃ x, x = wr := ⟨wr, rfl⟩
              subst hwi
              obtain ⟨n, L, hn, rfl, rfl, rfl, hfr⟩ := hrel
              obtain ⟨ts', ms, hbr, hpt, hpk, hrow, hfair⟩ := hfr.out
              by_cases hnl : n < l.length
              · have hnl' : (n : Int) < (l.length : Int) := by omega
                obtain ⟨q, hnx, hql, hqf, hqd, hqr, hqn⟩ := fair_next hfair hpk hnl hn0 hn1
                have hql' : (q : Int) < (l.length : Int) := by omega
                have hq0 : (0 : Int) ≤ (q : Int) := by omega
                have BR := Lib.hid hbr
                have AR := Lib.hid hpt
                have KR' := Lib.hid hpk
                have RR := Lib.hid hrow
                have HQ := Lib.hid (And.intro hnx (And.intro hqf (And.intro hqr (And.intro hqn hql))))
                have hms : Hid (ms.length = l.length) := Lib.hid hfair.len
                obtain ⟨D, hD⟩ : ∃ D, dueP ts' q = D := ⟨_, rfl⟩
                rw [hD] at hqd
                have HD := Lib.hid hD
                clear hbr hpt hpk hrow hfair hfr hnx hqf hqr hqn hql hnl hD
                go_wp2_with fail
                refine (next_any _ p v1 ts' now _ AR.out (by rw [KR'.out.len]; exact HL.out.1)).mono ?_
                rintro e w4 ⟨rfl, hb⟩
                rw [HQ.out.1, show nextV (some q) = .tuple #[.int .i64 (q : Int), .bool true] from rfl]
                have B4 := Lib.hid (BR.out.trans (hb.mono BR.out.size))
                have A4 := Lib.hid (AR.out.on hb)
                have R4 := Lib.hid (ownsRow_off RR.out (Off.of_below (fun _ => False) hb) (fun _ _ f => f))
                clear hb
                have y4 : w4.cell? ⟨G, q, none⟩ = some (.bool false) := by
                  rw [R4.out.cellAt q (by have := HQ.out.2.2.2.2; omega)]
                  have h1 := HQ.out.2.1
                  have h2 : q < ms.length := (List.getElem?_eq_some_iff.1 h1).1
                  simp [mcells, h1]
                go_wp2_with fail
                refine (due_yes _ p v1 _ q _ A4.out (by rw [KR'.out.len]; exact HQ.out.2.2.2.2)).mono ?_
                rintro e w5 ⟨rfl, hb⟩
                rw [HD.out]
                have B5 := Lib.hid (B4.out.trans (hb.mono B4.out.size))
                have A5 := Lib.hid (A4.out.on hb)
                have R5 := Lib.hid (ownsRow_off R4.out (Off.of_below (fun _ => False) hb) (fun _ _ f => f))
                clear hb y4
                have hcl : (w5.cell? ⟨G, q, none⟩).isSome = true ∧ w5.frozen? ⟨G, q, none⟩ = false := by
                  refine ⟨?_, R5.out.frozenAt _⟩
                  rw [R5.out.cellAt q (by have := HQ.out.2.2.2.2; omega), List.getElem?_eq_getElem (by rw [mcells_length, hms.out]; exact HQ.out.2.2.2.2)]
                  rfl
                obtain ⟨old, hold⟩ := Option.isSome_iff_exists.1 hcl.1
                have hfrz := hcl.2
                have HS : Hid (Off (fun k => k = G) w5 (w5.setCell ⟨G, q, none⟩ (.bool true)) ∧ (w5.setCell ⟨G, q, none⟩ (.bool true)).ownsRow G 4 1 (.slice (some ⟨G, 0, none⟩) l.length l.length) l.length (mcells (ms.set q true))) := Lib.hid ⟨Off.set _ _ _ _ rfl, by
                  have := (R5.out.stored q (.bool true)).1
                  rw [mcells_set] at this
                  exact this⟩
                have A6 : Hid (PlAt (w5.setCell ⟨G, q, none⟩ (.bool true)) wa.heap.size p v1 ts') := Lib.hid (A5.out.off HS.out.1 (fun e => row_no R5.out A5.out.obj (by decide) (by rw [e]; rfl)) (fun k e1 e2 => rows_apart A5.out.own R5.out (by decide) k e1 (by rw [e2]; rfl)))
                have B6 : Hid (Below w.heap.size w (w5.setCell ⟨G, q, none⟩ (.bool true))) := Lib.hid (B5.out.setCell SB.out _)
                clear hcl
                go_wp2_with fail
                refine (done_any _ p v1 l ts' (q : Int) now _ A6.out KR'.out).mono ?_
                rintro e w7 ⟨x, rfl, hp7, ho7, hx7⟩
                rcases hx7 with ⟨_, rfl⟩ | ⟨hno, _⟩
                · have HN : Hid (FairHas w wa p v1 l G G l.length now D (n + 1) w7) := Lib.hid (by
                    refine ⟨_, _, B6.out.trans ((off_below A6.out ho7).mono BA.out.size), hp7, KR'.out.doneA _ _, ownsRow_off HS.out.2 ho7 (fun k e1 e2 => rows_apart A6.out.own HS.out.2 (by decide) k e2 e1), ?_⟩
                    have := HQ.out.2.2.2.1
                    rw [HD.out] at this
                    exact this)
                  clear hp7 ho7
                  go_wp2
                  go_roundg (l.length - (n + 1))
                  case measure => omega
                  case rel => exact ⟨n + 1, D, by omega, rfl, rfl, (by first | exact next_int n (by have := HL.out; omega) | exact congrArg _ (by omega)), HN⟩
                · exact absurd HQ.out.2.2.1 hno
              · have hnl' : (l.length : Int) ≤ (n : Int) := by omega
                have hne : n = l.length := by omega
                subst hne
                have BR := Lib.hid hbr
                have AR := Lib.hid hpt
                have HE := Lib.hid (fair_end hfair hpk)
                have HLN := Lib.hid hpk.len
                clear hbr hpt hpk hrow hfair hfr hnl
                go_wp2_with fail
                refine (next_any _ p v1 ts' now _ AR.out (by rw [HLN.out]; exact HL.out.1)).mono ?_
                rintro e w4 ⟨rfl, hb⟩
                rw [HE.out, show nextV none = .tuple #[.int .i64 0, .bool false] from rfl]
                have B4 := Lib.hid (BR.out.trans (hb.mono BR.out.size))
                clear hb
                go_wp2_with fail
                refine (first_any _).mono ?_
                rintro e w5 ⟨rfl, hb⟩
                have B5 := Lib.hid (B4.out.trans (hb.mono B4.out.size))
                clear hb
                go_wp2
                go_ret
                exact ⟨rfl, B5.out⟩
  · have B1 := Lib.hid (BA.out.trans (hb.mono BA.out.size))
    obtain ⟨bx, rfl⟩ := hx.form
    clear hb hx hbad
    go_wp2_with fail
    refine (first_any _).mono ?_
    rintro e w2 ⟨rfl, hb⟩
    have B2 := Lib.hid (B1.out.trans (hb.mono B1.out.size))
    clear hb
    go_wp2
    go_ret
    exact ⟨rfl, B2.out⟩
set_option maxRecDepth 100000 in
set_option maxHeartbeats 2000000 in
theorem fair_any (ao oo : Option Addr) (cap ocap : Nat) (l : List Int) (ops : List OpV) (now : Int) (w : World) (hv : IntsAt w (.slice ao l.length cap) l) (hvo : OpsAt w (.slice oo ops.length ocap) ops) :
    Calls Try.prog 3 #[.slice ao l.length cap, .slice oo ops.length ocap, .int .i64 now] w (Fine w) := by
  by_cases hin : l.length ≤ 16 ∧ ops.length ≤ 200 ∧ 0 ≤ now ∧ now ≤ 549755813888
  · obtain ⟨h1, h2, h3, h4⟩ := hin
    exact fair_in ao oo cap ocap l ops now w hv hvo h1 h2 h3 h4
  · have hcase : (16 : Int) < (l.length : Int) ∨ ((l.length : Int) ≤ 16 ∧ (200 : Int) < (ops.length : Int)) ∨ ((l.length : Int) ≤ 16 ∧ (ops.length : Int) ≤ 200 ∧ now < 0) ∨ ((l.length : Int) ≤ 16 ∧ (ops.length : Int) ≤ 200 ∧ 0 ≤ now ∧ 549755813888 < now) := by omega
    clear hin hv hvo
    rcases hcase with h1 | ⟨h1, h2⟩ | ⟨h1, h2, h3⟩ | ⟨h1, h2, h3, h4⟩ <;> (
      go_enter Try.func3, Try.ntmps3
      go_wp2_with fail
      refine (first_any _).mono ?_
      rintro e wa ⟨rfl, hba⟩
      have BA := Lib.hid hba
      clear hba
      go_wp2_with fail
      refine (first_any _).mono ?_
      rintro e wb ⟨rfl, hb⟩
      have BB := Lib.hid (BA.out.trans (hb.mono BA.out.size))
      clear hb
      go_wp2
      go_ret
      exact ⟨rfl, BB.out⟩)
end Go.Proofs.Ytcbiomcbkmdhaaa
