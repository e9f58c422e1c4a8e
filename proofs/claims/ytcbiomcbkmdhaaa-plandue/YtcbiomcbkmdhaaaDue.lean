/- yardlaw9.PlanDue answers true for every row of numbers, every list of calls and every number; older memory stands. -/
import Derived.Test.YtcbiomcbkmdhaaaStarts
import Derived.Deep.AppendLies
namespace Go.Proofs.Ytcbiomcbkmdhaaa
open Go.RowKit Go.Extern.Stop Go.Stop Go.Extern

/-- Two rows of different elements share no block. -/
theorem rows_apart {w : World} {B B2 : Nat} {e e2 : TypeId} {size size2 : Nat} {v v2 : Value} {n n2 : Nat} {xs xs2 : List Value} (h : w.ownsRow B e size v n xs) (h2 : w.ownsRow B2 e2 size2 v2 n2 xs2) (ht : e2 ≠ e) (k : Nat) (hk : v.ownBlock = some k) : v2.ownBlock ≠ some k := fun e' => by
  rcases h2.2 with ⟨hv, _⟩ | ⟨g, cap, cur, hv, _, hh, _⟩
  · rw [hv] at e'; cases e'
  · rw [hv] at e'
    have : g = k := by simpa [Value.ownBlock] using e'
    subst this
    exact row_no h hh ht hk
theorem info3p : ∃ i0, Try.prog.info? 3 = some i0 ∧ i0.zero = some (.int .i64 0) ∧ i0.size = 1 ∧ i0.bytes = 8 := by
  have : (Try.prog.info? 3).map (fun i => (i.zero, i.size, i.bytes)) = some (some (.int .i64 0), 1, 8) := by kernel_rfl
  cases h : Try.prog.info? 3 with
  | none => rw [h] at this; cases this
  | some i0 => rw [h] at this; simp at this; exact ⟨i0, rfl, this.1, this.2.1, this.2.2⟩
/-- When the first k polls are due. -/
def duesTo (ts : List (Int × Int)) (k : Nat) : List Int := (List.range k).map (dueP ts)
theorem duesTo_length (ts : List (Int × Int)) (k : Nat) : (duesTo ts k).length = k := by simp [duesTo]
theorem duesTo_next (ts : List (Int × Int)) (k : Nat) : duesTo ts (k + 1) = duesTo ts k ++ [dueP ts k] := by simp [duesTo, List.range_succ]
theorem duesTo_get (ts : List (Int × Int)) (n k : Nat) (h : k < (duesTo ts n).length) : (duesTo ts n)[k] = dueP ts k := by simp [duesTo]
theorem icells_append (l m : List Int) : icells (l ++ m) = icells l ++ icells m := by simp [icells]
/-- A Plan, and older memory. -/
def PlanHas (W wa : World) (p : Nat) (v : Value) (l : List Int) (wr : World) : Prop := Below W.heap.size W wr ∧ ∃ ts, PlAt wr wa.heap.size p v ts ∧ PollsOk l ts
/-- .. and a row of the first k polls' times. -/
def WasHas (W wa : World) (p : Nat) (v : Value) (ts : List (Int × Int)) (B : Nat) (u : Value) (k : Nat) (wr : World) : Prop := Below W.heap.size W wr ∧ PlAt wr wa.heap.size p v ts ∧ wr.ownsRow B 3 1 u k (icells (duesTo ts k)) ∧ B ≤ wr.heap.size
/-- After Done: the Plan, and the row of what was. -/
def Chk (W wa : World) (p : Nat) (v : Value) (ts' ts : List (Int × Int)) (u : Value) (n : Nat) (wr : World) : Prop := Below W.heap.size W wr ∧ PlAt wr wa.heap.size p v ts' ∧ IntsAt wr u (duesTo ts n)
theorem due_after {l : List Int} {ts : List (Int × Int)} (hk : PollsOk l ts) (i : Nat) (I N : Int) (hi : i < l.length) : dueP (doneA ts I N) i = if doneR ts I N ∧ (i : Int) = I then N + l[i] else dueP ts i := by
  unfold doneA
  by_cases hr : doneR ts I N
  · have hr' := hr
    obtain ⟨⟨h0, h1⟩, h2, h3⟩ := hr'
    rw [if_pos hr, dueP_done _ _ _ _ (by omega)]
    by_cases e : i = I.toNat
    · rw [if_pos e, if_pos ⟨hr, by omega⟩]
      subst e
      rw [hk.every _ hi]
    · rw [if_neg e, if_neg (fun x => e (by omega))]
  · rw [if_neg hr, if_neg (fun x => hr x.1)]

set_option maxRecDepth 100000 in
set_option maxHeartbeats 8000000 in
theorem due_in (ao oo : Option Addr) (cap ocap : Nat) (l : List Int) (ops : List OpV) (now : Int) (w : World) (hv : IntsAt w (.slice ao l.length cap) l) (hvo : OpsAt w (.slice oo ops.length ocap) ops) (hl : l.length ≤ 16) (hol : ops.length ≤ 200) :
    Calls Try.prog 4 #[.slice ao l.length cap, .slice oo ops.length ocap, .int .i64 now] w (Fine w) := by
  obtain ⟨i0, hi0, hz0, hz1, hz2⟩ := info3p
  have HV := Lib.hid hv
  have HO := Lib.hid hvo
  have hl' : (l.length : Int) ≤ 16 := by omega
  have hol' : (ops.length : Int) ≤ 200 := by omega
  have HL := Lib.hid (And.intro hl hol)
  clear hv hvo hl hol
  go_enter Try.func4, Try.ntmps4
  go_wp2_with fail
  refine (first_any _).mono ?_
  rintro e wa ⟨rfl, hba⟩
  have BA := Lib.hid hba
  clear hba
  go_wp2_with fail
  refine (new_any _ l wa (HV.out.on BA.out) HL.out.1).mono ?_
  rintro e w1 (⟨hok, p, v1, rfl, hp, hb⟩ | ⟨j, hj, hbad, _, x, rfl, hx, hb⟩)
  · have T1 : Hid (PlanHas w wa p v1 l w1) := Lib.hid ⟨BA.out.trans (hb.mono BA.out.size), _, hp, pollsOk_new hok⟩
    have OK := Lib.hid hok
    clear hp hb hok
    go_wp2_with fail
    go_loopg [9] ops.length (fun k s9 wr => ∃ i : Nat, i ≤ ops.length ∧ k = ops.length - i ∧ s9 = .int .i64 (i : Int) ∧ Hid (PlanHas w wa p v1 l wr))
    case atStart => exact ⟨0, Nat.zero_le _, rfl, rfl, T1⟩
    case round =>
      obtain ⟨wo, hwo⟩ : ∃ x, x = wr := ⟨wr, rfl⟩
      subst hwo
      obtain ⟨i, hi, rfl, rfl, hinv⟩ := hrel
      by_cases hlt : i < ops.length
      · have hil : (i : Int) < (ops.length : Int) := by omega
        have hi0' : (0 : Int) ≤ (i : Int) := by omega
        obtain ⟨bo, off, hbo, hco⟩ := HO.out.each i hlt
        subst hbo
        obtain ⟨I, hI⟩ : ∃ I, I = ops[i].n := ⟨_, rfl⟩
        obtain ⟨N, hN⟩ : ∃ N, N = ops[i].a := ⟨_, rfl⟩
        rw [← hI, ← hN] at hco
        have HC : Hid (∀ W, Below w.heap.size w W → W.cell? ⟨bo, off + i * 3 + 1, none⟩ = some (.int .i64 I) ∧ W.cell? ⟨bo, off + i * 3 + 2, none⟩ = some (.int .i64 N)) := Lib.hid fun W hW => (hco W hW).2
        clear hco hI hN
        obtain ⟨hbr, ts, hpt, hpk⟩ := hinv.out
        have KR := Lib.hid hpk
        have W0 : Hid (WasHas w wa p v1 ts wo.heap.size (.slice none 0 0) 0 wo) := Lib.hid ⟨hbr, hpt, World.ownsRow_nil _ _ _ _, Nat.le_refl _⟩
        clear hbr hpt hpk hinv
        go_wp2_with fail
        go_loopg [10, 11] l.length (fun k s10 s11 wr => ∃ (j : Nat) (ua : Option Addr) (uc : Nat), j ≤ l.length ∧ k = l.length - j ∧ s10 = .slice ua j uc ∧ s11 = .int .i64 (j : Int) ∧ Hid (WasHas w wa p v1 ts wo.heap.size (.slice ua j uc) j wr))
        case atStart => exact ⟨0, none, 0, Nat.zero_le _, rfl, rfl, rfl, W0⟩
        case round =>
          obtain ⟨wi, hwi⟩ : ∃ x, x = wr := ⟨wr, rfl⟩
          subst hwi
          obtain ⟨j, ua, uc, hj, rfl, rfl, rfl, hir⟩ := hrel
          by_cases hjl : j < l.length
          · have hjl' : (j : Int) < (l.length : Int) := by omega
            obtain ⟨hbr, hpt, hrow, hB⟩ := hir.out
            have BR := Lib.hid hbr
            have AR := Lib.hid hpt
            have RR := Lib.hid (And.intro hrow hB)
            clear hbr hpt hrow hB hir
            go_wp2_with fail
            refine (due_yes _ p v1 ts j _ AR.out (by rw [KR.out.len]; exact hjl)).mono ?_
            rintro e w2 ⟨rfl, hb⟩
            obtain ⟨d, hd⟩ : ∃ d, d = dueP ts j := ⟨_, rfl⟩
            have HD := Lib.hid hd
            rw [← hd]
            have hb2 := hb.trans (below_new w2 (.cells #[.int .i64 d] 3) |>.mono hb.size)
            have B2 := Lib.hid (BR.out.trans (hb2.mono BR.out.size))
            have A2 := Lib.hid (AR.out.on hb2)
            have R2 : Hid ((w2.alloc (.cells #[.int .i64 d] 3)).ownsRow wo.heap.size 3 1 (.slice ua j uc) j (icells (duesTo ts j)) ∧ wo.heap.size ≤ w2.heap.size) := Lib.hid ⟨ownsRow_off RR.out.1 (Off.of_below (fun _ => False) hb2) (fun _ _ f => f), Nat.le_trans RR.out.2 hb.size⟩
            have HN : Hid (∀ k u, [Value.int .i64 d][k]? = some u → (w2.alloc (.cells #[.int .i64 d] 3)).cell? ((⟨w2.heap.size, 0, none⟩ : Addr).add k) = some u) := Lib.hid (World.news_of_block (cs := #[.int .i64 d]) (by have := heap_alloc_new w2 (.cells #[.int .i64 d] 3); simpa using this))
            clear hb hb2 hd
            go_wp2_with (at_builtin; refine wpList_append_lies _ rfl _ _ 22 rfl wo.heap.size 3 i0 _ 1 8 Try.underlying22 hi0 hz0 hz1 hz2 rfl (by omega) _ j (icells (duesTo ts j)) rfl R2.out.1 ⟨w2.heap.size, 0, none⟩ 1 1 [.int .i64 d] rfl rfl HN.out (by simp [Value.oneCell']) (by omega) (by unfold maxLen; have := HL.out; omega) (by have := HL.out; omega) (by have := R2.out.2; simp; omega) (w2.heap.size + 1) (by simp) ?_)
            intro g3 c3 w3 ho hg hat hlt3
            have HW : Hid (WasHas w wa p v1 ts wo.heap.size (.slice (some ⟨g3, 0, none⟩) (j + 1) c3) (j + 1) w3) := Lib.hid (by
              have h1 := Off.of_grown hg
              refine ⟨?_, A2.out.off h1 (fun e => row_no R2.out.1 A2.out.obj (by decide) e) (fun k e1 e2 => rows_apart A2.out.own R2.out.1 (by decide) k e1 e2), ?_, ?_⟩
              · exact B2.out.trans (h1.below B2.out.size (fun k e => by have := (R2.out.1.lt k e).1; have := W0.out.1.size; omega))
              · rw [duesTo_next, icells_append]
                have := HD.out
                subst this
                exact ho
              · have := R2.out.2; have := h1.size; simp at this; omega)
            clear ho hg hat hlt3
            go_wp2
            go_roundg (l.length - (j + 1))
            case measure => omega
            case rel => exact ⟨j + 1, _, _, by omega, rfl, rfl, (by first | exact next_int j (by have := HL.out; omega) | exact congrArg _ (by omega)), HW⟩
          · have hjl' : (l.length : Int) ≤ (j : Int) := by omega
            have hje : j = l.length := by omega
            subst hje
            obtain ⟨hbr, hpt, hrow, hB⟩ := hir.out
            have BR := Lib.hid hbr
            have AR := Lib.hid hpt
            have RR := Lib.hid (And.intro hrow hB)
            clear hbr hpt hrow hB hir
            obtain ⟨x1, x2⟩ := HC.out _ BR.out
            go_wp2
            go_still_tail 11, (by kernel_rfl)
            go_wp2_with fail
            refine (done_any _ p v1 l ts I N _ (AR.out.on (below_drew _ _)) KR.out).mono ?_
            rintro e w3 ⟨f, rfl, hp3, ho3, hx3⟩
            have BD := Lib.hid (BR.out.trans ((below_drew _ 1).mono BR.out.size))
            have C3 : Hid (Chk w wa p v1 (doneA ts I N) ts (.slice ua l.length uc) l.length w3) := Lib.hid (by
              refine ⟨BD.out.trans ((off_below (AR.out.on (below_drew _ _)) ho3).mono BA.out.size), hp3, ?_⟩
              have h1 := own_drew RR.out.1 1
              have h2 := ownsRow_off h1 ho3 (fun k e1 e2 => rows_apart (own_drew AR.out.own 1) h1 (by decide) k e2 e1)
              exact intsAt_own (by rw [duesTo_length]; exact h2))
            clear hp3 ho3 x1 x2
            rcases hx3 with ⟨hr, rfl⟩ | ⟨hr, hfe⟩
            · have HR := Lib.hid hr
              clear hr
              go_wp2_with fail
              go_loopg [15] l.length (fun k s15 wr => ∃ m : Nat, m ≤ l.length ∧ k = l.length - m ∧ s15 = .int .i64 (m : Int) ∧ Hid (Chk w wa p v1 (doneA ts I N) ts (.slice ua l.length uc) l.length wr))
              case atStart => exact ⟨0, Nat.zero_le _, rfl, rfl, C3⟩
              case round =>
                obtain ⟨wk, hwk⟩ : ∃ x, x = wr := ⟨wr, rfl⟩
                subst hwk
                obtain ⟨m, hm, rfl, rfl, hck⟩ := hrel
                by_cases hml : m < l.length
                · have hml' : (m : Int) < (l.length : Int) := by omega
                  have hm0 : (0 : Int) ≤ (m : Int) := by omega
                  have HML := Lib.hid hml
                  have DA := Lib.hid (due_after KR.out m I N HML.out)
                  clear hml
                  go_wp2_with fail
                  refine (due_yes _ p v1 _ m _ hck.out.2.1 (by rw [doneA_length, KR.out.len]; exact HML.out)).mono ?_
                  rintro e w4 ⟨rfl, hb⟩
                  have C4 : Hid (Chk w wa p v1 (doneA ts I N) ts (.slice ua l.length uc) l.length w4) := Lib.hid ⟨hck.out.1.trans (hb.mono hck.out.1.size), hck.out.2.1.on hb, hck.out.2.2.on hb⟩
                  clear hb hck
                  obtain ⟨D, hD⟩ : ∃ D, dueP (doneA ts I N) m = D := ⟨_, rfl⟩
                  have HDD := Lib.hid hD
                  rw [hD]
                  clear hD
                  obtain ⟨y1, y2⟩ := HC.out _ C4.out.1
                  obtain ⟨be, oe, hbe, hce⟩ := HV.out.each m HML.out
                  subst hbe
                  have y3 := hce _ C4.out.1
                  have C4i := C4.out.2.2
                  rw [show (Value.slice ua l.length uc) = .slice ua (duesTo ts l.length).length uc by rw [duesTo_length]] at C4i
                  obtain ⟨bu, ou, hbu, hcu⟩ := C4i.each m (by rw [duesTo_length]; exact HML.out)
                  subst hbu
                  have y4 := hcu _ (Below.refl _ _)
                  rw [duesTo_get] at y4
                  obtain ⟨E, hE⟩ : ∃ E, l[m]'HML.out = E := ⟨_, rfl⟩
                  have HE := Lib.hid hE
                  rw [hE] at y3
                  clear hE hce hcu C4i
                  by_cases hq : (m : Int) = I
                  · have hd2 : D = N + E := by have h1 := DA.out; rw [if_pos ⟨HR.out, hq⟩, HDD.out, HE.out] at h1; exact h1
                    have hb2 : 0 ≤ N ∧ N ≤ 1099511627776 ∧ 1 ≤ E ∧ E ≤ 10000 := by
                      have h1 := HR.out.2
                      have h2 := every_get OK.out m HML.out
                      rw [HE.out] at h2
                      exact ⟨h1.1, h1.2, h2.1, h2.2⟩
                    have hw : IntKind.i64.wrap (N + E) = N + E := by rw [IntKind.wrap_i64]; omega
                    have hD3 : (D != N + E) = false := by rw [hd2]; simp
                    have q1 : ((m : Int) == I) = true := by rw [hq]; simp
                    have q2 : ((m : Int) != I) = false := by rw [hq]; simp
                    generalize dueP ts m = D0 at y4
                    clear hd2 hb2 hq
                    go_wp2_with fail
                    go_quiet (fail)
                    generalize hw5 : w4.drewN nq = w5
                    have HC5 : Hid (Chk w wa p v1 (doneA ts I N) ts (.slice (some ⟨bu, ou, none⟩) l.length uc) l.length w5) := Lib.hid (by rw [← hw5]; exact ⟨below_drewN' C4.out.1 _, C4.out.2.1.on (below_drew _ _), C4.out.2.2.on (below_drew _ _)⟩)
                    clear hw5
                    go_wp2
                    go_roundg (l.length - (m + 1))
                    case measure => omega
                    case rel => exact ⟨m + 1, by omega, rfl, (by first | exact next_int m (by have := HL.out; omega) | exact congrArg _ (by omega)), HC5⟩
                  · have hd2 : D = dueP ts m := by have h1 := DA.out; rw [if_neg (fun x => hq x.2), HDD.out] at h1; exact h1
                    rw [← hd2] at y4
                    have hD3 : (D != D) = false := by simp
                    have q1 : ((m : Int) == I) = false := beq_eq_false_iff_ne.2 hq
                    have q2 : ((m : Int) != I) = true := bne_iff_ne.2 hq
                    clear hd2 hq
                    go_wp2_with fail
                    go_quiet (fail)
                    generalize hw5 : w4.drewN nq = w5
                    have HC5 : Hid (Chk w wa p v1 (doneA ts I N) ts (.slice (some ⟨bu, ou, none⟩) l.length uc) l.length w5) := Lib.hid (by rw [← hw5]; exact ⟨below_drewN' C4.out.1 _, C4.out.2.1.on (below_drew _ _), C4.out.2.2.on (below_drew _ _)⟩)
                    clear hw5
                    go_wp2
                    go_roundg (l.length - (m + 1))
                    case measure => omega
                    case rel => exact ⟨m + 1, by omega, rfl, (by first | exact next_int m (by have := HL.out; omega) | exact congrArg _ (by omega)), HC5⟩
                · have hml' : (l.length : Int) ≤ (m : Int) := by omega
                  have HP : Hid (PlanHas w wa p v1 l wk) := Lib.hid ⟨hck.out.1, _, hck.out.2.1, KR.out.doneA _ _⟩
                  clear hck
                  go_wp2
                  go_roundg (ops.length - (i + 1))
                  case measure => omega
                  case rel => exact ⟨i + 1, by omega, rfl, (by first | exact next_int i (by have := HL.out; omega) | exact congrArg _ (by omega)), HP⟩
            · have HR := Lib.hid hr
              obtain ⟨bf, rfl⟩ := hfe.form
              clear hr hfe
              go_wp2_with fail
              go_loopg [15] l.length (fun k s15 wr => ∃ m : Nat, m ≤ l.length ∧ k = l.length - m ∧ s15 = .int .i64 (m : Int) ∧ Hid (Chk w wa p v1 (doneA ts I N) ts (.slice ua l.length uc) l.length wr))
              case atStart => exact ⟨0, Nat.zero_le _, rfl, rfl, C3⟩
              case round =>
                obtain ⟨wk, hwk⟩ : ∃ x, x = wr := ⟨wr, rfl⟩
                subst hwk
                obtain ⟨m, hm, rfl, rfl, hck⟩ := hrel
                by_cases hml : m < l.length
                · have hml' : (m : Int) < (l.length : Int) := by omega
                  have hm0 : (0 : Int) ≤ (m : Int) := by omega
                  have HML := Lib.hid hml
                  have DA := Lib.hid (due_after KR.out m I N HML.out)
                  clear hml
                  go_wp2_with fail
                  refine (due_yes _ p v1 _ m _ hck.out.2.1 (by rw [doneA_length, KR.out.len]; exact HML.out)).mono ?_
                  rintro e w4 ⟨rfl, hb⟩
                  have C4 : Hid (Chk w wa p v1 (doneA ts I N) ts (.slice ua l.length uc) l.length w4) := Lib.hid ⟨hck.out.1.trans (hb.mono hck.out.1.size), hck.out.2.1.on hb, hck.out.2.2.on hb⟩
                  clear hb hck
                  obtain ⟨D, hD⟩ : ∃ D, dueP (doneA ts I N) m = D := ⟨_, rfl⟩
                  have HDD := Lib.hid hD
                  rw [hD]
                  clear hD
                  obtain ⟨y1, y2⟩ := HC.out _ C4.out.1
                  obtain ⟨be, oe, hbe, hce⟩ := HV.out.each m HML.out
                  subst hbe
                  have y3 := hce _ C4.out.1
                  have C4i := C4.out.2.2
                  rw [show (Value.slice ua l.length uc) = .slice ua (duesTo ts l.length).length uc by rw [duesTo_length]] at C4i
                  obtain ⟨bu, ou, hbu, hcu⟩ := C4i.each m (by rw [duesTo_length]; exact HML.out)
                  subst hbu
                  have y4 := hcu _ (Below.refl _ _)
                  rw [duesTo_get] at y4
                  obtain ⟨E, hE⟩ : ∃ E, l[m]'HML.out = E := ⟨_, rfl⟩
                  have HE := Lib.hid hE
                  rw [hE] at y3
                  clear hE hce hcu C4i
                  have hd2 : D = dueP ts m := by have h1 := DA.out; rw [if_neg (fun x => HR.out x.1), HDD.out] at h1; exact h1
                  rw [← hd2] at y4
                  have hD3 : (D != D) = false := by simp
                  clear hd2
                  go_wp2_with fail
                  go_quiet (fail)
                  generalize hw5 : w4.drewN nq = w5
                  have HC5 : Hid (Chk w wa p v1 (doneA ts I N) ts (.slice (some ⟨bu, ou, none⟩) l.length uc) l.length w5) := Lib.hid (by rw [← hw5]; exact ⟨below_drewN' C4.out.1 _, C4.out.2.1.on (below_drew _ _), C4.out.2.2.on (below_drew _ _)⟩)
                  clear hw5
                  go_wp2
                  go_roundg (l.length - (m + 1))
                  case measure => omega
                  case rel => exact ⟨m + 1, by omega, rfl, (by first | exact next_int m (by have := HL.out; omega) | exact congrArg _ (by omega)), HC5⟩
                · have hml' : (l.length : Int) ≤ (m : Int) := by omega
                  have HP : Hid (PlanHas w wa p v1 l wk) := Lib.hid ⟨hck.out.1, _, hck.out.2.1, KR.out.doneA _ _⟩
                  clear hck
                  go_wp2
                  go_roundg (ops.length - (i + 1))
                  case measure => omega
                  case rel => exact ⟨i + 1, by omega, rfl, (by first | exact next_int i (by have := HL.out; omega) | exact congrArg _ (by omega)), HP⟩
      · have hil : (ops.length : Int) ≤ (i : Int) := by omega
        obtain ⟨hbr, ts, hpt, hpk⟩ := hinv.out
        have BR := Lib.hid hbr
        have AR := Lib.hid hpt
        have KR := Lib.hid hpk
        clear hbr hpt hpk hinv
        go_wp2_with fail
        refine (next_any _ p v1 ts now _ AR.out (by rw [KR.out.len]; exact HL.out.1)).mono ?_
        rintro e w3 ⟨rfl, hb⟩
        have A3 := Lib.hid (AR.out.on hb)
        have B3 := Lib.hid (BR.out.trans (hb.mono BR.out.size))
        clear hb
        rcases nextP_is ts now with ⟨hn, hall⟩ | ⟨n, hn, hnl, hnd, hall⟩
        · rw [hn, show nextV none = .tuple #[.int .i64 0, .bool false] from rfl]
          have HALL := Lib.hid hall
          clear hn hall
          go_wp2_with fail
          go_loopg [20, 21] l.length (fun k s20 s21 wr => ∃ m : Nat, m ≤ l.length ∧ k = l.length - m ∧ s20 = .bool false ∧ s21 = .int .i64 (m : Int) ∧ Hid (Below w.heap.size w wr ∧ PlAt wr wa.heap.size p v1 ts))
          case atStart => exact ⟨0, Nat.zero_le _, rfl, rfl, rfl, Lib.hid ⟨B3.out, A3.out⟩⟩
          case round =>
            obtain ⟨wk, hwk⟩ : ∃ x, x = wr := ⟨wr, rfl⟩
            subst hwk
            obtain ⟨m, hm, rfl, rfl, rfl, hck⟩ := hrel
            by_cases hml : m < l.length
            · have hml' : (m : Int) < (l.length : Int) := by omega
              have HML := Lib.hid hml
              clear hml
              go_wp2_with fail
              refine (due_yes _ p v1 _ m _ hck.out.2 (by rw [KR.out.len]; exact HML.out)).mono ?_
              rintro e w4 ⟨rfl, hb⟩
              have C4 : Hid (Below w.heap.size w w4 ∧ PlAt w4 wa.heap.size p v1 ts) := Lib.hid ⟨hck.out.1.trans (hb.mono hck.out.1.size), hck.out.2.on hb⟩
              clear hb hck
              have hgt := HALL.out m (by rw [KR.out.len]; exact HML.out)
              have hgt2 : decide (dueP ts m ≤ now) = false := decide_eq_false (by omega)
              generalize dueP ts m = D at *
              go_wp2_with fail
              refine (due_yes _ p v1 _ 0 _ C4.out.2 (by rw [KR.out.len]; have := HML.out; omega)).mono ?_
              rintro e w5 ⟨rfl, hb⟩
              have C5 : Hid (Below w.heap.size w w5 ∧ PlAt w5 wa.heap.size p v1 ts) := Lib.hid ⟨C4.out.1.trans (hb.mono C4.out.1.size), C4.out.2.on hb⟩
              clear hb
              generalize dueP ts 0 = D0 at *
              go_wp2
              go_roundg (l.length - (m + 1))
              case measure => omega
              case rel => exact ⟨m + 1, by omega, rfl, rfl, (by first | exact next_int m (by have := HL.out; omega) | exact congrArg _ (by omega)), C5⟩
            · have hml' : (l.length : Int) ≤ (m : Int) := by omega
              go_wp2_with fail
              refine (first_any _).mono ?_
              rintro e w4 ⟨rfl, hb⟩
              have B4 := Lib.hid (hck.out.1.trans (hb.mono hck.out.1.size))
              clear hb hck
              go_wp2
              go_ret
              exact ⟨rfl, B4.out⟩
        · rw [hn, show nextV (some n) = .tuple #[.int .i64 (n : Int), .bool true] from rfl]
          have HALL := Lib.hid (And.intro hnd (And.intro hnl hall))
          clear hn hall hnd hnl
          go_wp2_with fail
          go_loopg [20, 21] l.length (fun k s20 s21 wr => ∃ (m : Nat) (f : Bool), m ≤ l.length ∧ k = l.length - m ∧ s20 = .bool f ∧ s21 = .int .i64 (m : Int) ∧ Hid (f = true ∨ m ≤ n) ∧ Hid (Below w.heap.size w wr ∧ PlAt wr wa.heap.size p v1 ts))
          case atStart => exact ⟨0, false, Nat.zero_le _, rfl, rfl, rfl, Lib.hid (.inr (Nat.zero_le _)), Lib.hid ⟨B3.out, A3.out⟩⟩
          case round =>
            obtain ⟨wk, hwk⟩ : ∃ x, x = wr := ⟨wr, rfl⟩
            subst hwk
            obtain ⟨m, f, hm, rfl, rfl, rfl, hfl, hck⟩ := hrel
            by_cases hml : m < l.length
            · have hml' : (m : Int) < (l.length : Int) := by omega
              have HML := Lib.hid hml
              clear hml
              go_wp2_with fail
              refine (due_yes _ p v1 _ m _ hck.out.2 (by rw [KR.out.len]; exact HML.out)).mono ?_
              rintro e w4 ⟨rfl, hb⟩
              have C4 : Hid (Below w.heap.size w w4 ∧ PlAt w4 wa.heap.size p v1 ts) := Lib.hid ⟨hck.out.1.trans (hb.mono hck.out.1.size), hck.out.2.on hb⟩
              clear hb hck
              obtain ⟨D, hD⟩ : ∃ D, dueP ts m = D := ⟨_, rfl⟩
              obtain ⟨X, hX⟩ : ∃ X, dueP ts n = X := ⟨_, rfl⟩
              have hmn := HALL.out.2.2 m (by rw [KR.out.len]; exact HML.out)
              have hxn := HALL.out.1
              have hst : Hid (f = true ∨ m + 1 ≤ n ∨ D ≤ now) := Lib.hid (by
                rcases hfl.out with h1 | h1
                · exact .inl h1
                · rcases Nat.lt_or_ge m n with h2 | h2
                  · exact .inr (.inl h2)
                  · have : m = n := by omega
                    subst this
                    exact .inr (.inr (by rw [← hD]; exact hxn)))
              rw [hD, hX] at hmn
              rw [hX] at hxn
              have HX := Lib.hid hX
              rw [hD]
              clear hD hX hfl
              have hlt1 : ¬ D < X := by omega
              have hlt2 : decide (D < X) = false := decide_eq_false hlt1
              have hlt3 : X ≤ D := by omega
              have heq : D = X → n ≤ m := fun e => by omega
              clear hmn hlt1
              have HEQ := Lib.hid heq
              clear heq
              cases f
              · by_cases hdn : D ≤ now
                · by_cases hdx : D = X
                  · have hnm2 : (n : Int) ≤ (m : Int) := by have := HEQ.out hdx; omega
                    have heq1 : (D == X) = true := by rw [hdx]; simp
                    have hnm3 : decide ((m : Int) < (n : Int)) = false := decide_eq_false (by omega)
                    have hdn2 : decide (D ≤ now) = true := decide_eq_true hdn
                    skip
                    go_wp2_with fail
                    refine (due_yes _ p v1 _ n _ C4.out.2 HALL.out.2.1).mono ?_
                    rintro e w5 ⟨rfl, hb⟩
                    rw [HX.out]
                    have C5 : Hid (Below w.heap.size w w5 ∧ PlAt w5 wa.heap.size p v1 ts) := Lib.hid ⟨C4.out.1.trans (hb.mono C4.out.1.size), C4.out.2.on hb⟩
                    clear hb hdx hdn
                    go_wp2
                    go_roundg (l.length - (m + 1))
                    case measure => omega
                    case rel => exact ⟨m + 1, true, by omega, rfl, rfl, (by first | exact next_int m (by have := HL.out; omega) | exact congrArg _ (by omega)), Lib.hid (.inl rfl), C5⟩
                  · have hne : (D == X) = false := beq_eq_false_iff_ne.2 hdx
                    have hdn2 : decide (D ≤ now) = true := decide_eq_true hdn
                    skip
                    go_wp2_with fail
                    refine (due_yes _ p v1 _ n _ C4.out.2 HALL.out.2.1).mono ?_
                    rintro e w5 ⟨rfl, hb⟩
                    rw [HX.out]
                    have C5 : Hid (Below w.heap.size w w5 ∧ PlAt w5 wa.heap.size p v1 ts) := Lib.hid ⟨C4.out.1.trans (hb.mono C4.out.1.size), C4.out.2.on hb⟩
                    clear hb hdx hdn
                    go_wp2
                    go_roundg (l.length - (m + 1))
                    case measure => omega
                    case rel => exact ⟨m + 1, true, by omega, rfl, rfl, (by first | exact next_int m (by have := HL.out; omega) | exact congrArg _ (by omega)), Lib.hid (.inl rfl), C5⟩
                · by_cases hdx : D = X
                  · exact absurd (by omega : D ≤ now) hdn
                  · have hne : (D == X) = false := beq_eq_false_iff_ne.2 hdx
                    have hdn2 : decide (D ≤ now) = false := decide_eq_false hdn
                    have hdn3 : now < D := by omega
                    have HF : Hid (m + 1 ≤ n) := Lib.hid (by
                      rcases hst.out with h1 | h1 | h1
                      · cases h1
                      · exact h1
                      · exact absurd h1 hdn)
                    go_wp2_with fail
                    refine (due_yes _ p v1 _ n _ C4.out.2 HALL.out.2.1).mono ?_
                    rintro e w5 ⟨rfl, hb⟩
                    rw [HX.out]
                    have C5 : Hid (Below w.heap.size w w5 ∧ PlAt w5 wa.heap.size p v1 ts) := Lib.hid ⟨C4.out.1.trans (hb.mono C4.out.1.size), C4.out.2.on hb⟩
                    clear hb hdx hdn
                    go_wp2
                    go_roundg (l.length - (m + 1))
                    case measure => omega
                    case rel => exact ⟨m + 1, false, by omega, rfl, rfl, (by first | exact next_int m (by have := HL.out; omega) | exact congrArg _ (by omega)), Lib.hid (.inr HF.out), C5⟩
              · by_cases hdn : D ≤ now
                · by_cases hdx : D = X
                  · have hnm2 : (n : Int) ≤ (m : Int) := by have := HEQ.out hdx; omega
                    have heq1 : (D == X) = true := by rw [hdx]; simp
                    have hnm3 : decide ((m : Int) < (n : Int)) = false := decide_eq_false (by omega)
                    have hdn2 : decide (D ≤ now) = true := decide_eq_true hdn
                    skip
                    go_wp2_with fail
                    refine (due_yes _ p v1 _ n _ C4.out.2 HALL.out.2.1).mono ?_
                    rintro e w5 ⟨rfl, hb⟩
                    rw [HX.out]
                    have C5 : Hid (Below w.heap.size w w5 ∧ PlAt w5 wa.heap.size p v1 ts) := Lib.hid ⟨C4.out.1.trans (hb.mono C4.out.1.size), C4.out.2.on hb⟩
                    clear hb hdx hdn
                    go_wp2
                    go_roundg (l.length - (m + 1))
                    case measure => omega
                    case rel => exact ⟨m + 1, true, by omega, rfl, rfl, (by first | exact next_int m (by have := HL.out; omega) | exact congrArg _ (by omega)), Lib.hid (.inl rfl), C5⟩
                  · have hne : (D == X) = false := beq_eq_false_iff_ne.2 hdx
                    have hdn2 : decide (D ≤ now) = true := decide_eq_true hdn
                    skip
                    go_wp2_with fail
                    refine (due_yes _ p v1 _ n _ C4.out.2 HALL.out.2.1).mono ?_
                    rintro e w5 ⟨rfl, hb⟩
                    rw [HX.out]
                    have C5 : Hid (Below w.heap.size w w5 ∧ PlAt w5 wa.heap.size p v1 ts) := Lib.hid ⟨C4.out.1.trans (hb.mono C4.out.1.size), C4.out.2.on hb⟩
                    clear hb hdx hdn
                    go_wp2
                    go_roundg (l.length - (m + 1))
                    case measure => omega
                    case rel => exact ⟨m + 1, true, by omega, rfl, rfl, (by first | exact next_int m (by have := HL.out; omega) | exact congrArg _ (by omega)), Lib.hid (.inl rfl), C5⟩
                · by_cases hdx : D = X
                  · exact absurd (by omega : D ≤ now) hdn
                  · have hne : (D == X) = false := beq_eq_false_iff_ne.2 hdx
                    have hdn2 : decide (D ≤ now) = false := decide_eq_false hdn
                    have hdn3 : now < D := by omega
                    skip
                    go_wp2_with fail
                    refine (due_yes _ p v1 _ n _ C4.out.2 HALL.out.2.1).mono ?_
                    rintro e w5 ⟨rfl, hb⟩
                    rw [HX.out]
                    have C5 : Hid (Below w.heap.size w w5 ∧ PlAt w5 wa.heap.size p v1 ts) := Lib.hid ⟨C4.out.1.trans (hb.mono C4.out.1.size), C4.out.2.on hb⟩
                    clear hb hdx hdn
                    go_wp2
                    go_roundg (l.length - (m + 1))
                    case measure => omega
                    case rel => exact ⟨m + 1, true, by omega, rfl, rfl, (by first | exact next_int m (by have := HL.out; omega) | exact congrArg _ (by omega)), Lib.hid (.inl rfl), C5⟩
            · have hml' : (l.length : Int) ≤ (m : Int) := by omega
              have hft : f = true := by
                rcases hfl.out with h1 | h1
                · exact h1
                · have h2 := HALL.out.2.1
                  rw [KR.out.len] at h2
                  omega
              subst hft
              clear hfl
              go_wp2_with fail
              refine (first_any _).mono ?_
              rintro e w4 ⟨rfl, hb⟩
              have B4 := Lib.hid (hck.out.1.trans (hb.mono hck.out.1.size))
              clear hb hck
              go_wp2
              go_ret
              exact ⟨rfl, B4.out⟩
  · have B1 := Lib.hid (BA.out.trans (hb.mono BA.out.size))
    obtain ⟨bx, rfl⟩ := hx.form
    clear hb hx hbad
    go_wp2_with fail
    refine (first_any _).mono ?_
    rintro e w2 ⟨rfl, hb⟩
    have B2 := Lib.hid (B1.out.trans (hb.mono B1.out.size))
    clear hb
    go_wp2
    go_ret
    exact ⟨rfl, B2.out⟩
set_option maxRecDepth 100000 in
set_option maxHeartbeats 2000000 in
theorem due_any (ao oo : Option Addr) (cap ocap : Nat) (l : List Int) (ops : List OpV) (now : Int) (w : World) (hv : IntsAt w (.slice ao l.length cap) l) (hvo : OpsAt w (.slice oo ops.length ocap) ops) :
    Calls Try.prog 4 #[.slice ao l.length cap, .slice oo ops.length ocap, .int .i64 now] w (Fine w) := by
  by_cases hl : l.length ≤ 16
  · by_cases hol : ops.length ≤ 200
    · exact due_in ao oo cap ocap l ops now w hv hvo hl hol
    · have h1 : (l.length : Int) ≤ 16 := by omega
      have h2 : (200 : Int) < (ops.length : Int) := by omega
      clear hv hvo hl hol
      go_enter Try.func4, Try.ntmps4
      go_wp2_with fail
      refine (first_any _).mono ?_
      rintro e wa ⟨rfl, hba⟩
      have BA := Lib.hid hba
      clear hba
      go_wp2_with fail
      refine (first_any _).mono ?_
      rintro e wb ⟨rfl, hb⟩
      have BB := Lib.hid (BA.out.trans (hb.mono BA.out.size))
      clear hb
      go_wp2
      go_ret
      exact ⟨rfl, BB.out⟩
  · have h1 : (16 : Int) < (l.length : Int) := by omega
    clear hv hvo hl
    go_enter Try.func4, Try.ntmps4
    go_wp2_with fail
    refine (first_any _).mono ?_
    rintro e wa ⟨rfl, hba⟩
    have BA := Lib.hid hba
    clear hba
    go_wp2_with fail
    refine (first_any _).mono ?_
    rintro e wb ⟨rfl, hb⟩
    have BB := Lib.hid (BA.out.trans (hb.mono BA.out.size))
    clear hb
    go_wp2
    go_ret
    exact ⟨rfl, BB.out⟩
end Go.Proofs.Ytcbiomcbkmdhaaa
