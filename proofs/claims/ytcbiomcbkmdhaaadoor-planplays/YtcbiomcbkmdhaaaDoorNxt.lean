/- plan.Next and plan.Copy in memory. -/
import Derived.Test.YtcbiomcbkmdhaaaDoorNew
import Derived.LaidEql
import Derived.Lib.SliceRun
import Derived.Lib.OwnBridge
import Derived.Lib.SlBytesConst
namespace Go.Proofs.YtcbiomcbkmdhaaaDoor
open Go.RowKit Go.Extern.Stop Go.Stop Go.Extern

/-- What Next tells. -/
def nextV (o : Option Nat) : Value := .tuple #[.int .i64 ((o.getD 0 : Nat) : Int), .bool o.isSome]
theorem box_due (wr : World) (a d : Int) : (wr.alloc (.cells #[.int .i64 a, .int .i64 d] 52)).cell? ⟨wr.heap.size, 1, none⟩ = some (.int .i64 d) := by
  rw [cell_of_row _ _ _ _ _ _ (heap_alloc_new wr _)]; rfl
theorem PlAt.due {w : World} {B p g cap n' : Nat} {ts : List (Int × Int)} (h : PlAt w B p (.slice (some ⟨g, 0, none⟩) n' cap) ts) (n : Nat) (hn : n < ts.length) : w.cell? ⟨g, n * 2 + 1, none⟩ = some (.int .i64 (dueP ts n)) := by
  obtain ⟨ao, cap', he, _, _, hcell⟩ := h.form
  obtain ⟨g', hg, _, p1⟩ := hcell n hn
  subst hg
  simp only [Value.slice.injEq, Option.some.injEq, Addr.mk.injEq] at he
  obtain ⟨⟨rfl, _, _⟩, _, _⟩ := he
  rw [p1]
  unfold dueP
  simp [List.getD, hn]
set_option maxRecDepth 100000 in
set_option maxHeartbeats 4000000 in
theorem next_any (B p : Nat) (v : Value) (ts : List (Int × Int)) (now : Int) (w : World) (h : PlAt w B p v ts) (hl : ts.length ≤ 16) :
    Calls Tryd.prog 12 #[.pointer (some ⟨p, 0, none⟩), .int .i64 now] w fun e w' => e = .returned (nextV (nextP ts now)) ∧ Below w.heap.size w w' := by
  have c0 := h.c0
  have H := Lib.hid h
  have HL := Lib.hid hl
  obtain ⟨ao, cap, rfl, hc, hm, hcs⟩ := h.form
  clear h hl hc hm hcs
  go_enter Tryd.func12, Tryd.ntmps12
  go_wp2
  go_loopg [6, 7, 15] ts.length (fun k s6 s7 s15 wr => ∃ (i n : Nat) (f : Bool), i ≤ ts.length ∧ k = ts.length - i ∧ s6 = .int .i64 (n : Int) ∧ s7 = .bool f ∧ s15 = .int .i64 (i : Int) ∧ Hid (Below w.heap.size w wr) ∧ Hid ((f = false ∧ n = 0 ∧ nextTo ts now i = none) ∨ (f = true ∧ n < i ∧ nextTo ts now i = some n)))
  case atStart => exact ⟨0, 0, false, Nat.zero_le _, rfl, rfl, rfl, rfl, Lib.hid (Below.refl _ _), Lib.hid (.inl ⟨rfl, rfl, rfl⟩)⟩
  case round =>
    obtain ⟨i, n, f, hi, rfl, rfl, rfl, rfl, hbr, hst⟩ := hrel
    by_cases hlt : i < ts.length
    · obtain ⟨ao', cap', he, _, _, hcell⟩ := (H.out.on hbr.out).form
      obtain ⟨g, hg, p0, p1⟩ := hcell i hlt
      simp only [Value.slice.injEq] at he
      obtain ⟨rfl, _, rfl⟩ := he
      subst hg
      have hi0 : (0 : Int) ≤ (i : Int) := by omega
      have hil : (i : Int) < (ts.length : Int) := by omega
      have HD : Hid (dueP ts i = ts[i].2) := Lib.hid (by unfold dueP; simp [List.getD, hlt])
      clear hcell
      generalize ts[i] = t at *
      obtain ⟨t1, t2⟩ := t
      have hb2 : Below w.heap.size w (wr.alloc (.cells #[.int .i64 t1, .int .i64 t2] 52)) := hbr.out.alloc hbr.out.size _
      have HB2 := Lib.hid hb2
      have P2 := Lib.hid (H.out.on hb2)
      have c0A := P2.out.c0
      have bx := box_due wr t1 t2
      clear hb2
      by_cases hq : t2 ≤ now
      · rcases hst.out with ⟨rfl, rfl, hn⟩ | ⟨rfl, hni, hn⟩
        · have HS : Hid (nextTo ts now (i + 1) = some i) := Lib.hid (by
            have := HD.out
            simp only [nextTo, hn, this]
            rw [if_pos hq])
          clear hn hst
          go_wp2_with fail
          go_quiet (fail)
          generalize hw2 : (wr.alloc (.cells #[.int .i64 t1, .int .i64 t2] 52)).drewN nq = w2
          have HB3 : Hid (Below w.heap.size w w2) := Lib.hid (by rw [← hw2]; exact below_drewN' HB2.out _)
          clear hw2
          go_wp2
          go_roundg (ts.length - (i + 1))
          case measure => omega
          case rel => exact ⟨i + 1, i, true, by omega, rfl, rfl, rfl, (by first | exact next_int i (by have := HL.out; omega) | exact congrArg _ (by omega)), HB3, Lib.hid (.inr ⟨rfl, by omega, HS.out⟩)⟩
        · have cn := P2.out.due n (by omega)
          have hn0 : (0 : Int) ≤ (n : Int) := by omega
          have hnl : (n : Int) < (ts.length : Int) := by omega
          obtain ⟨dn, hdn⟩ : ∃ dn, dn = dueP ts n := ⟨_, rfl⟩
          have HDN := Lib.hid hdn
          rw [← hdn] at cn
          clear hdn
          by_cases hq2 : t2 < dn
          · have HS : Hid (nextTo ts now (i + 1) = some i) := Lib.hid (by
              have := HD.out
              simp only [nextTo, hn, this]
              rw [if_pos ⟨hq, by rw [← HDN.out]; exact hq2⟩])
            clear hn hst
            go_wp2_with fail
            go_quiet (fail)
            generalize hw2 : (wr.alloc (.cells #[.int .i64 t1, .int .i64 t2] 52)).drewN nq = w2
            have HB3 : Hid (Below w.heap.size w w2) := Lib.hid (by rw [← hw2]; exact below_drewN' HB2.out _)
            clear hw2
            go_wp2
            go_roundg (ts.length - (i + 1))
            case measure => omega
            case rel => exact ⟨i + 1, i, true, by omega, rfl, rfl, rfl, (by first | exact next_int i (by have := HL.out; omega) | exact congrArg _ (by omega)), HB3, Lib.hid (.inr ⟨rfl, by omega, HS.out⟩)⟩
          · have HS : Hid (nextTo ts now (i + 1) = some n) := Lib.hid (by
              have := HD.out
              simp only [nextTo, hn, this]
              rw [if_neg (fun x => hq2 (by rw [HDN.out]; exact x.2))])
            have hnn : Hid (n < i) := Lib.hid hni
            clear hn hst hni
            go_wp2_with fail
            go_quiet (fail)
            generalize hw2 : (wr.alloc (.cells #[.int .i64 t1, .int .i64 t2] 52)).drewN nq = w2
            have HB3 : Hid (Below w.heap.size w w2) := Lib.hid (by rw [← hw2]; exact below_drewN' HB2.out _)
            clear hw2
            go_wp2
            go_roundg (ts.length - (i + 1))
            case measure => omega
            case rel => exact ⟨i + 1, n, true, by omega, rfl, rfl, rfl, (by first | exact next_int i (by have := HL.out; omega) | exact congrArg _ (by omega)), HB3, Lib.hid (.inr ⟨rfl, by have := hnn.out; omega, HS.out⟩)⟩
      · have HS : Hid ((f = false ∧ n = 0 ∧ nextTo ts now (i + 1) = none) ∨ (f = true ∧ n < i + 1 ∧ nextTo ts now (i + 1) = some n)) := Lib.hid (by
          have h3 := HD.out
          simp only at h3
          rcases hst.out with ⟨h1, h2, hn⟩ | ⟨h1, hni, hn⟩
          · refine .inl ⟨h1, h2, ?_⟩
            simp only [nextTo, hn, h3]
            rw [if_neg hq]
          · refine .inr ⟨h1, by omega, ?_⟩
            simp only [nextTo, hn, h3]
            rw [if_neg (fun x => hq x.1)])
        have hq' : decide (t2 ≤ now) = false := by simpa using hq
        have hq2 : now < t2 := by omega
        clear hst hq
        go_wp2_with fail
        go_quiet (fail)
        generalize hw2 : (wr.alloc (.cells #[.int .i64 t1, .int .i64 t2] 52)).drewN nq = w2
        have HB3 : Hid (Below w.heap.size w w2) := Lib.hid (by rw [← hw2]; exact below_drewN' HB2.out _)
        clear hw2
        go_wp2
        go_roundg (ts.length - (i + 1))
        case measure => omega
        case rel => exact ⟨i + 1, n, f, by omega, rfl, rfl, rfl, (by first | exact next_int i (by have := HL.out; omega) | exact congrArg _ (by omega)), HB3, HS⟩
    · have hil : (ts.length : Int) ≤ (i : Int) := by omega
      have HE : Hid (Ending.returned (.tuple #[.int .i64 (n : Int), .bool f]) = .returned (nextV (nextP ts now))) := Lib.hid (by
        have e : i = ts.length := by omega
        unfold nextP
        rw [← e]
        rcases hst.out with ⟨h1, h2, hn⟩ | ⟨h1, _, hn⟩
        · rw [hn, h1, h2]; rfl
        · rw [hn, h1]; rfl)
      clear hst
      go_wp2
      go_ret2
      exact ⟨HE.out, hbr.out⟩

theorem row_cells {w : World} {g : Nat} {cur : Array Value} {e : TypeId} {ts : List (Int × Int)} (hh : w.heap[g]? = some (.cells cur e (0, 0))) (hx : cur.toList.take (ts.length * 2) = tcells ts) (j : Nat) (u : Value) (hj : (tcells ts)[j]? = some u) : w.cell? ⟨g, j, none⟩ = some u := by
  rw [cell_of_row _ _ _ _ _ _ hh, ← Array.getElem?_toList]
  rw [← hx, List.getElem?_take] at hj
  split at hj
  · exact hj
  · cases hj
theorem made_empty45 (w : World) : (w.alloc (.cells #[] 52)).ownsRow w.heap.size 52 2 (.slice (some ⟨w.heap.size, 0, none⟩) 0 0) 0 [] := World.ownsRow_made w #[] 0 (Nat.le_refl _) (Nat.zero_le _) (by simp)
theorem below_grown {w w' : World} {o : Obj} (hg : (w.alloc o).grownBy w' (some w.heap.size)) : Below w.heap.size w w' :=
  ((Below.refl _ w).alloc (Nat.le_refl _) _).grown hg (by simp) (by intro k hk; simp at hk; omega)
/-- What a copy of polls is: a row of the call's own. -/
def CloneIs (w : World) (ts : List (Int × Int)) (e : Ending) (w' : World) : Prop :=
  ∃ v', e = .returned v' ∧ w'.ownsRow w.heap.size 52 2 v' ts.length (tcells ts) ∧ Below w.heap.size w w'
set_option maxRecDepth 100000 in
set_option maxHeartbeats 4000000 in
theorem clone_any (B : Nat) (v : Value) (ts : List (Int × Int)) (w : World) (h : w.ownsRow B 52 2 v ts.length (tcells ts)) (hl : ts.length ≤ 100000) : Calls Tryd.prog 24 #[v] w (CloneIs w ts) := by
  obtain ⟨i0, hi0, hz0, hz1, hz2⟩ := info45p
  have q59 : ∀ (w : World) (a : Option Addr) (n c n' c' : Nat), (binOp .eql 50 (.slice a n c) (.slice none n' c')).run Tryd.prog w = .ok (.bool a.isNone) w := fun w a n c n' c' => Lib.run_eql_slice_nil w _ _ a n c n' c' Tryd.underlying50
  rcases h.2 with ⟨hv, h0⟩ | ⟨g, cap, cur, hv, _, hh, hc, hm, hz, hx⟩
  · subst hv
    have h1 : ts = [] := List.length_eq_zero_iff.1 h0
    subst h1
    clear h h0 hl
    go_enter Tryd.func24, Tryd.ntmps24
    go_wp2
    go_ret
    exact ⟨_, rfl, World.ownsRow_nil _ _ _ _, Below.refl _ _⟩
  · subst hv
    have HC : Hid (∀ j u, (tcells ts)[j]? = some u → w.cell? ((⟨g, 0, none⟩ : Addr).add j) = some u) := Lib.hid fun j u hj => by
      rw [Addr.add_lit, Nat.zero_add]
      exact row_cells hh hx j u hj
    clear h hh hx hz hm
    go_enter Tryd.func24, Tryd.ntmps24
    go_wp2_with (at_builtin; refine wpList_append_own _ rfl _ _ 50 rfl w.heap.size 52 i0 _ 2 16 Tryd.underlying50 hi0 hz0 hz1 hz2 rfl (by omega) _ _ _ rfl (made_empty45 w) ⟨g, 0, none⟩ ts.length cap (tcells ts) rfl ?qc1 ?qc2 ?qc3 ?qc4 ?qc5 ?qc6 ?_)
    case qc1 => rw [tcells_length]
    case qc2 => exact fun j u hj => Lib.cell?_alloc_some _ (HC.out j u hj)
    case qc3 => exact tcells_one ts
    case qc4 => unfold maxLen; omega
    case qc5 => omega
    case qc6 => simp
    intro v' w1 hown hgrow hnil
    have HO := Lib.hid hown
    have HG := Lib.hid hgrow
    clear hown hgrow hnil
    go_wp2
    go_ret
    exact ⟨v', rfl, by simpa using HO.out, below_grown HG.out⟩
/-- What Copy makes. -/
def CopyIs (w : World) (ts : List (Int × Int)) (e : Ending) (w' : World) : Prop :=
  ∃ q v', e = .returned (.pointer (some ⟨q, 0, none⟩)) ∧ PlAt w' w.heap.size q v' ts ∧ Below w.heap.size w w'
set_option maxRecDepth 100000 in
set_option maxHeartbeats 4000000 in
theorem copy_any (B p : Nat) (v : Value) (ts : List (Int × Int)) (w : World) (h : PlAt w B p v ts) (hl : ts.length ≤ 100000) : Calls Tryd.prog 14 #[.pointer (some ⟨p, 0, none⟩)] w (CopyIs w ts) := by
  have H := Lib.hid h
  have c0 := h.c0
  have HC := Lib.hid (clone_any B v ts w h.own hl)
  obtain ⟨ao, cap, rfl, _⟩ := h.form
  clear h
  go_enter Tryd.func14, Tryd.ntmps14
  go_wp2_with fail
  refine HC.out.mono ?_
  rintro e w1 ⟨v', rfl, ho, hb⟩
  have HR : Hid (CopyIs w ts (.returned (.pointer (some ⟨w1.heap.size, 0, none⟩))) (w1.alloc (.cells #[v'] 54))) := Lib.hid ⟨w1.heap.size, v', rfl, ⟨hb.size, heap_alloc_new w1 _, ho.alloc _⟩, hb.alloc hb.size _⟩
  obtain ⟨ao', cap', rfl⟩ := row_slice' ho
  clear ho hb
  go_wp2
  go_ret
  exact HR.out
end Go.Proofs.YtcbiomcbkmdhaaaDoor
