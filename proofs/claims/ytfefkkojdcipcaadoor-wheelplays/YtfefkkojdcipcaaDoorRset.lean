/- yardref2.Wheel.Set in memory, where it takes what it is asked. -/
import Derived.Test.YtfefkkojdcipcaaDoorRset0
namespace Go.Proofs.YtfefkkojdcipcaaDoor
open Go.RowKit Go.Extern.Stop Go.Stop Go.Extern

theorem RTurned.end_ {w w1 W X w3 : World} {B p r : Nat} {now : Int} {v v1 v' : Value} {ts' es : List (Int × Int)} (hr : w.heap.size ≤ r) (hp : p < w.heap.size) (ho1 : Off (Wrote p v) w w1) (hn1 : ∀ k, v1.ownBlock = some k → v.ownBlock = some k ∨ w.heap.size ≤ k) (h1 : RwAt w1 B p now v1 es) (hb : Below w1.heap.size w1 X) (ho : RRow w3 B v' ts') (hk : Off (fun k => v1.ownBlock = some k) X w3) (hn : ∀ k, v'.ownBlock = some k → v1.ownBlock = some k ∨ X.heap.size ≤ k) (hW : W = ((w3.setCell ⟨p, 1, none⟩ v').setCell ⟨r, 0, none⟩ (.int .i64 0)).setCell ⟨r, 1, none⟩ (.slice none 0 0)) (hrt : ∀ q, v'.ownBlock = some q → q ≠ r) : RTurned w B p v now ts' W := by
  obtain ⟨v2, g1, g2, g3⟩ := (h1.on hb).row ho hk hn
  have hsz : w.heap.size ≤ X.heap.size := Nat.le_trans ho1.size hb.size
  have gr : Off (fun k => k = r) (w3.setCell ⟨p, 1, none⟩ v') W := by
    rw [hW]
    exact (Off.set (fun k => k = r) _ ⟨r, 0, none⟩ _ rfl).trans (Off.set (fun k => k = r) _ ⟨r, 1, none⟩ _ rfl)
  have hobj := g1.obj
  rw [heap_set _ _ _ _ _ _ _ ((hk.block p (h1.on hb).lt (h1.on hb).ne).trans (h1.on hb).obj)] at hobj
  have hv2 : v2 = v' := by
    simp only [Option.some.injEq, Obj.cells.injEq] at hobj
    have := hobj.1
    simp at this
    exact this.symm
  subst hv2
  refine ⟨v2, g1.off gr (fun k h2 h3 => ?_), ⟨gr.os.trans (g2.os.trans (hb.os.trans ho1.os)), gr.tape.trans (g2.tape.trans (hb.tape.trans ho1.tape)), gr.output.trans (g2.output.trans (hb.output.trans ho1.output)), Nat.le_trans hsz (Nat.le_trans g2.size gr.size), fun k hk1 hk2 => ?_⟩, fun k hk1 => ?_⟩
  · rcases h2 with rfl | h2
    · omega
    · exact hrt k h2 h3
  · have hkX : k < X.heap.size := by omega
    have hk1' : k < w1.heap.size := Nat.lt_of_lt_of_le hk1 ho1.size
    have hnw : ¬ Wrote p v1 k := fun s => by
      rcases s with rfl | s
      · exact hk2 (.inl rfl)
      · rcases hn1 k s with s | s
        · exact hk2 (.inr s)
        · omega
    rw [gr.block k (by have := g2.size; omega) (by omega), g2.block k hkX hnw, hb.block k hk1', ho1.block k hk1 hk2]
  · rcases hn k hk1 with e | e
    · exact hn1 k e
    · exact .inr (by omega)

/-- The inner append of Set: the new timer, and those behind it. -/
theorem inner_app (Wq : World) (B : Nat) (ao : Option Addr) (cap i : Nat) (es : List (Int × Int)) (x1 x2 : Int) (hi : i ≤ es.length) (hrow : RRow Wq B (.slice ao es.length cap) es) (hc : es.length ≤ cap) (hl : es.length ≤ 900) :
    ∃ (A : Option Addr) (c1 g2 c2 : Nat) (D2 : World), ((ao = none ∧ A = none ∧ c1 = 0 ∧ es = [] ∧ cap = 0 ∧ i = 0) ∨ ∃ g off, ao = some ⟨g, off, none⟩ ∧ A = (if cap = i then some ⟨g, off, none⟩ else some ⟨g, off + i * 2, none⟩) ∧ c1 = cap - i) ∧
      (Builtin.append_ #[27, 27] 27 #[.slice (some ⟨Wq.heap.size, 0, none⟩) 1 1, .slice A (es.length - i) c1]).run Tryd.prog (Wq.drew.alloc (.cells #[.int .i64 x1, .int .i64 x2] 75)) = .ok (.slice (some ⟨g2, 0, none⟩) (1 + (es.length - i)) c2) D2 ∧
      D2.ownsRow Wq.heap.size 75 2 (.slice (some ⟨g2, 0, none⟩) (1 + (es.length - i)) c2) (1 + (es.length - i)) (tcells ((x1, x2) :: es.drop i)) ∧ Below Wq.heap.size Wq D2 := by
  have hb1 : Below Wq.heap.size Wq (Wq.drew.alloc (.cells #[.int .i64 x1, .int .i64 x2] 75)) := (Below.refl Wq.heap.size Wq).drew.alloc (Nat.le_refl _) _
  have hlit : (Wq.drew.alloc (.cells #[.int .i64 x1, .int .i64 x2] 75)).ownsRow Wq.heap.size 75 2 (.slice (some ⟨Wq.heap.size, 0, none⟩) 1 1) 1 (tcells [(x1, x2)]) := World.ownsRow_lit Wq.drew #[.int .i64 x1, .int .i64 x2] 1 (Nat.le_refl _) (by unfold maxLen; omega) (by simp)
  have hcases := hrow
  rcases hcases with ⟨hv, h0⟩ | ⟨g, off, cap', cur, hv, hBg, hh, _, hm, hz, hx⟩
  · simp only [Value.slice.injEq] at hv
    obtain ⟨rfl, _, rfl⟩ := hv
    subst h0
    have hi0 : i = 0 := by simpa using hi
    subst hi0
    refine ⟨none, 0, Wq.heap.size, 1, _, .inl ⟨rfl, rfl, rfl, rfl, rfl, rfl⟩, ?_, by simpa using hlit, hb1⟩
    obtain ⟨i0, hi0, _, _, _⟩ := info75p
    simp [Builtin.append_, run_underlying Tryd.underlying27, sizeOf, typeInfo, hi0, Builtin.lenOf, Builtin.firstCells, storeCells]
  · simp only [Value.slice.injEq] at hv
    obtain ⟨rfl, _, rfl⟩ := hv
    obtain ⟨A, hA, hAc⟩ : ∃ A : Addr, (if cap = i then some (⟨g, off, none⟩ : Addr) else some ⟨g, off + i * 2, none⟩) = some A ∧ ∀ j u, (tcells (es.drop i))[j]? = some u → (Wq.drew.alloc (.cells #[.int .i64 x1, .int .i64 x2] 75)).cell? (A.add j) = some u := by
      by_cases hq : cap = i
      · refine ⟨⟨g, off, none⟩, by simp [hq], fun j u hj => ?_⟩
        rw [List.drop_eq_nil_of_le (by omega)] at hj
        simp [tcells] at hj
      · refine ⟨⟨g, off + i * 2, none⟩, by simp [hq], fun j u hj => ?_⟩
        have hpos : 0 < es.length := by
          rcases Nat.lt_or_ge i es.length with h | h
          · omega
          · rw [List.drop_eq_nil_of_le h] at hj
            simp [tcells] at hj
        obtain ⟨g', off', e, _, hcell⟩ := hrow.news hpos
        simp only [Option.some.injEq, Addr.mk.injEq] at e
        obtain ⟨rfl, rfl, _⟩ := e
        rw [Addr.add_lit]
        exact hcell i _ hb1 j u hj
    obtain ⟨v2, D2, h1, h2, h3⟩ := app_timers (Wq.drew.alloc (.cells #[.int .i64 x1, .int .i64 x2] 75)) Wq.heap.size (.slice (some ⟨Wq.heap.size, 0, none⟩) 1 1) [(x1, x2)] (es.drop i) A (cap - i) hlit hAc (by simp) (by simp; omega)
    rw [show ([(x1, x2)] : List (Int × Int)).length = 1 from rfl, List.length_drop] at h2
    rw [List.length_drop] at h1
    obtain ⟨g2, c2, rfl, _, _⟩ := h2.form (by omega)
    refine ⟨some A, cap - i, g2, c2, D2, .inr ⟨g, off, rfl, hA.symm, rfl⟩, h1, h2, ?_⟩
    exact hb1.grown h3 (by simp) (by intro k hk; simp [Value.ownBlock] at hk; omega)

set_option maxRecDepth 100000 in
set_option maxHeartbeats 8000000 in
theorem rset_ok (B p : Nat) (now : Int) (v : Value) (ts : List (Int × Int)) (id after : Int) (w : World) (h : RwAt w B p now v ts) (hl : ts.length ≤ 900) (hr : inR id after) (hn0 : 0 ≤ now) (hn1 : now ≤ 1099511627776) :
    Calls Tryd.prog 13 #[.pointer (some ⟨p, 0, none⟩), .int .i64 id, .int .i64 after] w fun e w' => e = .returned (.agg #[.int .i64 0, .slice none 0 0]) ∧ RTurned w B p v now (setT now ts id after) w' := by
  obtain ⟨⟨hi0, hi1⟩, ha0, ha1⟩ := hr
  have HE := Lib.hid (insT_eq (eraseT ts id) (id, laterT now after))
  change Calls Tryd.prog 13 #[.pointer (some ⟨p, 0, none⟩), .int .i64 id, .int .i64 after] w fun e w' => e = .returned (.agg #[.int .i64 0, .slice none 0 0]) ∧ RTurned w B p v now (insT (eraseT ts id) (id, laterT now after)) w'
  generalize insT (eraseT ts id) (id, laterT now after) = T at *
  have HB0 : Hid (Below w.heap.size w (w.alloc (.cells #[.int .i64 0, .slice none 0 0] 39))) := Lib.hid (below_new _ _)
  have HRB : Hid ((w.alloc (.cells #[.int .i64 0, .slice none 0 0] 39)).heap[w.heap.size]? = some (.cells #[.int .i64 0, .slice none 0 0] 39 (0, 0)) ∧ w.heap.size < (w.alloc (.cells #[.int .i64 0, .slice none 0 0] 39)).heap.size) := Lib.hid ⟨heap_alloc_new w _, by simp⟩
  have H := Lib.hid h
  have HP := Lib.hid h.lt
  have HL := Lib.hid (Nat.le_trans (eraseT_length ts id) hl)
  have HL0 := Lib.hid hl
  have HA := Lib.hid (And.intro ha0 ha1)
  have HN := Lib.hid (And.intro hn0 hn1)
  clear h hl ha0 ha1 hn0 hn1
  have ha0 : 0 ≤ after := HA.out.1
  have ha1 : after ≤ 1099511627776 := HA.out.2
  go_enter Tryd.func13, Tryd.ntmps13
  go_wp2_with fail
  generalize w.alloc (.cells #[.int .i64 0, .slice none 0 0] 39) = wa at *
  refine (rcancel_any B p now v ts id wa (H.out.on HB0.out) (by have := HL0.out; omega)).mono ?_
  rintro e w1 ⟨rfl, v1, h1, ho1, hn1⟩
  have H1 := Lib.hid h1
  have HO1 : Hid (Off (Wrote p v) w w1 ∧ ∀ k, v1.ownBlock = some k → v.ownBlock = some k ∨ w.heap.size ≤ k) := Lib.hid ⟨(Off.of_below _ HB0.out).trans ho1, fun k hk => by
    rcases hn1 k hk with e | e
    · exact .inl e
    · exact .inr (Nat.le_trans HB0.out.size e)⟩
  have HR1 : Hid (w1.heap[w.heap.size]? = some (.cells #[.int .i64 0, .slice none 0 0] 39 (0, 0))) := Lib.hid ((ho1.block _ HRB.out.2 (fun s => by
    rcases s with s | s
    · exact absurd HP.out (by omega)
    · exact absurd (H.out.rlt _ s).2 (by omega))).trans HRB.out.1)
  have c0 := h1.c0
  clear h1 ho1 hn1
  generalize (atT ts id).isSome = was
  go_wp2_with fail
  refine (rlater_any now after HN.out.1 HN.out.2 HA.out.1 HA.out.2 _).mono ?_
  rintro e w2 ⟨rfl, rfl⟩
  have HX : Hid ((w1.alloc (.cells #[.int .i64 id, .int .i64 (laterT now after)] 75)).heap[w1.heap.size]? = some (.cells #[.int .i64 id, .int .i64 (laterT now after)] 75 (0, 0)) ∧ w1.heap.size < (w1.alloc (.cells #[.int .i64 id, .int .i64 (laterT now after)] 75)).heap.size) := Lib.hid ⟨heap_alloc_new w1 _, by simp⟩
  have HB1 : Hid (Below w1.heap.size w1 (w1.alloc (.cells #[.int .i64 id, .int .i64 (laterT now after)] 75))) := Lib.hid ((Below.refl _ _).alloc (Nat.le_refl _) _)
  generalize laterT now after = at' at *
  generalize eraseT ts id = es at *
  obtain ⟨ao, cap, rfl, hc, hm, hcs⟩ := H1.out.form
  go_wp2
  generalize w1.alloc (.cells #[.int .i64 id, .int .i64 at'] 75) = W at *
  clear c0 hcs
  go_loopg [8] es.length (fun k s8 wr => ∃ i : Nat, i ≤ es.length ∧ k = es.length - i ∧ s8 = .int .i64 i ∧ Hid (Below W.heap.size W wr ∧ i + cnt (fun t => beforeT t (id, at')) (es.drop i) = cnt (fun t => beforeT t (id, at')) es))
  case atStart => exact ⟨0, Nat.zero_le _, rfl, rfl, Lib.hid ⟨Below.refl _ _, by simp⟩⟩
  case round =>
    obtain ⟨i, hi, rfl, rfl, hbr⟩ := hrel
    have HW : Hid (Below w1.heap.size w1 wr) := Lib.hid (HB1.out.trans (hbr.out.1.mono HB1.out.size))
    have c1 := (H1.out.on HW.out).c1
    have hxr : wr.heap[w1.heap.size]? = some (.cells #[.int .i64 id, .int .i64 at'] 75 (0, 0)) := (hbr.out.1.block _ HX.out.2).trans HX.out.1
    have x0 : wr.cell? ⟨w1.heap.size, 0, none⟩ = some (.int .i64 id) := by rw [cell_of_row _ _ _ _ _ _ hxr]; rfl
    have x1' : wr.cell? ⟨w1.heap.size, 1, none⟩ = some (.int .i64 at') := by rw [cell_of_row _ _ _ _ _ _ hxr]; rfl
    have HXR := Lib.hid hxr
    clear hxr
    have hstop : ∀ (q : Prop), (i = cnt (fun t => beforeT t (id, at')) es → q) → i = cnt (fun t => beforeT t (id, at')) es → q := fun q h1 h2 => h1 h2
    clear hstop
    by_cases hlt : i < es.length
    · obtain ⟨ao', cap', he, _, _, hcell⟩ := (H1.out.on HW.out).form
      obtain ⟨g, off, hg, p0, p1⟩ := hcell i hlt
      simp only [Value.slice.injEq] at he
      obtain ⟨rfl, _, rfl⟩ := he
      subst hg
      have hi0' : (0 : Int) ≤ (i : Int) := by omega
      have hil : (i : Int) < (es.length : Int) := by omega
      have hd : es.drop i = es[i] :: es.drop (i + 1) := List.drop_eq_getElem_cons hlt
      have HD := Lib.hid hd
      clear hd hcell
      generalize es[i] = t at *
      obtain ⟨t1, t2⟩ := t
      by_cases hq : beforeT (t1, t2) (id, at') = true
      · have HN' : Hid (i + 1 + cnt (fun t => beforeT t (id, at')) (es.drop (i + 1)) = cnt (fun t => beforeT t (id, at')) es) := Lib.hid (by
          have := hbr.out.2
          rw [HD.out, cnt, List.takeWhile_cons_of_pos (by exact hq), List.length_cons] at this
          rw [← this, cnt]; omega)
        rw [before_iff] at hq
        rcases hq with hq | ⟨hq1, hq2⟩
        · have hq' : t2 < at' := hq
          clear hq
          go_wp2_with fail
          go_quiet (fail)
          go_wp2
          go_roundg (es.length - (i + 1))
          case measure => omega
          case rel => exact ⟨i + 1, by omega, rfl, (by first | exact next_int i (by have := HL.out; omega) | exact congrArg _ (by omega)), Lib.hid ⟨below_drewN' hbr.out.1 _, HN'.out⟩⟩
        · have d1 : decide (t2 < at') = false := by simp only at hq1; simp; omega
          have d2 : (t2 == at') = true := by simpa using hq1
          have d3 : t1 < id := hq2
          clear hq1 hq2
          go_wp2_with fail
          go_quiet (fail)
          go_wp2
          go_roundg (es.length - (i + 1))
          case measure => omega
          case rel => exact ⟨i + 1, by omega, rfl, (by first | exact next_int i (by have := HL.out; omega) | exact congrArg _ (by omega)), Lib.hid ⟨below_drewN' hbr.out.1 _, HN'.out⟩⟩
      · have hik : i = cnt (fun t => beforeT t (id, at')) es := by
          have := hbr.out.2
          rw [HD.out, cnt, List.takeWhile_cons_of_neg (by exact hq)] at this
          simpa using this
        have HIK := Lib.hid hik
        clear hik
        rw [before_iff] at hq
        simp only at hq
        have d1 : decide (t2 < at') = false := by simp; omega
        by_cases hte : t2 = at'
        · have d2 : (t2 == at') = true := by simpa using hte
          have d3 : id ≤ t1 := by omega
          clear hq hte
          go_wp2_with fail
          go_quiet (fail)
          clear p0 p1
          have hbq : Below w1.heap.size w1 (wr.drewN nq) := below_drewN' HW.out _
          have hxq : (wr.drewN nq).heap[w1.heap.size]? = some (.cells #[.int .i64 id, .int .i64 at'] 75 (0, 0)) := HXR.out
          clear x0 x1' c1
          generalize wr.drewN nq = Wq at *
          have HBQ := Lib.hid hbq
          have HQ := Lib.hid (H1.out.on hbq)
          have c1 := HQ.out.c1
          have hpq : p < Wq.heap.size := HQ.out.lt
          have hxb : w1.heap.size < Wq.heap.size := lt_heap hxq
          have x0 : Wq.cell? ⟨w1.heap.size, 0, none⟩ = some (.int .i64 id) := by rw [cell_of_row _ _ _ _ _ _ hxq]; rfl
          have x1' : Wq.cell? ⟨w1.heap.size, 1, none⟩ = some (.int .i64 at') := by rw [cell_of_row _ _ _ _ _ _ hxq]; rfl
          obtain ⟨A, ca, g2, c2, D2, hAA, happ1, ho2, hbD2⟩ := inner_app Wq B (some ⟨g, off, none⟩) cap i es id at' hi HQ.out.own hc HL.out
          have hul : ((id, at') :: es.drop i).length = 1 + (es.length - i) := by rw [List.length_cons, List.length_drop]; omega
          have hsrc : D2.ownsRow Wq.heap.size 75 2 (.slice (some ⟨g2, 0, none⟩) ((id, at') :: es.drop i).length c2) ((id, at') :: es.drop i).length (tcells ((id, at') :: es.drop i)) := by rw [hul]; exact ho2
          have HQ2 := Lib.hid (HQ.out.on hbD2)
          obtain ⟨v3, D3, happ2, ho3, hk3, hn3⟩ := app_upon D2 B (some ⟨g, off, none⟩) cap i es ((id, at') :: es.drop i) hi HQ2.out.own hc Wq.heap.size g2 c2 hsrc (by simp) (Nat.le_trans HQ2.out.base (Nat.le_of_lt HQ2.out.lt)) (by have := HL.out; rw [hul]; omega)
          rw [hul] at happ2
          have hT : T = es.take i ++ (id, at') :: es.drop i := by rw [HE.out, ← HIK.out]
          rw [← hT] at ho3
          have hbD : Below w1.heap.size w1 D2 := hbq.trans (hbD2.mono hbq.size)
          have hr2 : D2.heap[w.heap.size]? = some (.cells #[.int .i64 0, .slice none 0 0] 39 (0, 0)) := keep_on hbD HR1.out
          have hr3 : D3.heap[w.heap.size]? = some (.cells #[.int .i64 0, .slice none 0 0] 39 (0, 0)) := (hk3.block _ (lt_heap hr2) (fun e => by
            obtain ⟨_, cur, hh⟩ := HQ2.out.own.block _ e
            rw [hr2] at hh
            simp only [Option.some.injEq, Obj.cells.injEq] at hh
            exact absurd hh.2.1 (by decide))).trans hr2
          have hrt : ∀ q, v3.ownBlock = some q → q ≠ w.heap.size := fun q e e2 => by
            obtain ⟨_, cur, hh⟩ := ho3.block q e
            rw [e2, hr3] at hh
            simp only [Option.some.injEq, Obj.cells.injEq] at hh
            exact absurd hh.2.1 (by decide)
          have hpr : p ≠ w.heap.size := by have := HP.out; omega
          have hr4 : (D3.setCell ⟨p, 1, none⟩ v3).heap[w.heap.size]? = some (.cells #[.int .i64 0, .slice none 0 0] 39 (0, 0)) := ((Off.set (fun k => k = p) D3 ⟨p, 1, none⟩ v3 rfl).block _ (lt_heap hr3) (by omega)).trans hr3
          obtain ⟨r0, r1, g0, g1⟩ := cell2 hr4
          have HZ := Lib.hid (RTurned.end_ (W := ((D3.setCell ⟨p, 1, none⟩ v3).setCell ⟨w.heap.size, 0, none⟩ (.int .i64 0)).setCell ⟨w.heap.size, 1, none⟩ (.slice none 0 0)) (Nat.le_refl _) HP.out HO1.out.1 HO1.out.2 H1.out hbD ho3 hk3 hn3 rfl hrt)
          have e0 : (((D3.setCell ⟨p, 1, none⟩ v3).setCell ⟨w.heap.size, 0, none⟩ (.int .i64 0)).setCell ⟨w.heap.size, 1, none⟩ (.slice none 0 0)).cell? ⟨w.heap.size, 0, none⟩ = some (.int .i64 0) := by
            rw [World.cell?_setCell_other _ _ _ _ (by simp)]
            exact World.cell?_setCell_same _ _ _ r0
          have e1 : (((D3.setCell ⟨p, 1, none⟩ v3).setCell ⟨w.heap.size, 0, none⟩ (.int .i64 0)).setCell ⟨w.heap.size, 1, none⟩ (.slice none 0 0)).cell? ⟨w.heap.size, 1, none⟩ = some (.slice none 0 0) :=
            World.cell?_setCell_same (u := .slice none 0 0) _ _ _ (by rw [World.cell?_setCell_other _ _ _ _ (by simp)]; exact r1)
          have HEE := Lib.hid (And.intro e0 e1)
          have HRR := Lib.hid (And.intro r0 (And.intro r1 (And.intro g0 g1)))
          clear e0 e1 r0 r1 g0 g1
          have c12 := HQ2.out.c1
          obtain ⟨s1, s2⟩ := HQ2.out.row_store hk3
          obtain ⟨av3, cv3, hvv3, hj3⟩ := ho3.form
          clear hj3
          subst hvv3
          have hcap0 : (i : Int) ≤ (cap : Int) := by omega
          have hle0 : (i : Int) ≤ (es.length : Int) := by omega
          have hi0q : (0 : Int) ≤ (i : Int) := by omega
          clear ho2 hsrc ho3 hk3 hn3 hbD2 hbD hr2 hr3 hr4 hrt hbq hxq hul hT hm hbr
          generalize T.length = nT at *
          generalize w1.heap.size = xb at *
          rcases hAA with ⟨hno, _⟩ | ⟨g', off', eg, rfl, rfl⟩
          · cases hno
          · simp only [Option.some.injEq, Addr.mk.injEq] at eg
            obtain ⟨rfl, rfl, _⟩ := eg
            go_wp2_with fail
            go_region_law (first
              | (refine step_append_run rfl (.tmp 91) (.tmp 97) 27 27 rfl _ _ (by simp [Act.eval, Act.put]) (by simp [Act.eval, Act.put]) happ1 ?_)
              | (refine step_append_run rfl (.tmp 89) (.tmp 98) 27 27 rfl _ _ (by simp [Act.eval, Act.put]) (by simp [Act.eval, Act.put]) happ2 ?_))
            all_goals
              clear s1 s2 c12 c1 x0 x1'
              obtain ⟨r0, r1, g0, g1⟩ := HRR.out
              obtain ⟨e0, e1⟩ := HEE.out
              go_wp2
              all_goals
                refine bodyPost_ret (v := .agg #[.int .i64 0, .slice none 0 0]) ?_ rfl ⟨rfl, HZ.out⟩
                simp [results, Tryd.results13, go_sem, e0, e1]
        · have d2 : (t2 == at') = false := by simpa using hte
          clear hq hte
          go_wp2_with fail
          go_quiet (fail)
          clear p0 p1
          have hbq : Below w1.heap.size w1 (wr.drewN nq) := below_drewN' HW.out _
          have hxq : (wr.drewN nq).heap[w1.heap.size]? = some (.cells #[.int .i64 id, .int .i64 at'] 75 (0, 0)) := HXR.out
          clear x0 x1' c1
          generalize wr.drewN nq = Wq at *
          have HBQ := Lib.hid hbq
          have HQ := Lib.hid (H1.out.on hbq)
          have c1 := HQ.out.c1
          have hpq : p < Wq.heap.size := HQ.out.lt
          have hxb : w1.heap.size < Wq.heap.size := lt_heap hxq
          have x0 : Wq.cell? ⟨w1.heap.size, 0, none⟩ = some (.int .i64 id) := by rw [cell_of_row _ _ _ _ _ _ hxq]; rfl
          have x1' : Wq.cell? ⟨w1.heap.size, 1, none⟩ = some (.int .i64 at') := by rw [cell_of_row _ _ _ _ _ _ hxq]; rfl
          obtain ⟨A, ca, g2, c2, D2, hAA, happ1, ho2, hbD2⟩ := inner_app Wq B (some ⟨g, off, none⟩) cap i es id at' hi HQ.out.own hc HL.out
          have hul : ((id, at') :: es.drop i).length = 1 + (es.length - i) := by rw [List.length_cons, List.length_drop]; omega
          have hsrc : D2.ownsRow Wq.heap.size 75 2 (.slice (some ⟨g2, 0, none⟩) ((id, at') :: es.drop i).length c2) ((id, at') :: es.drop i).length (tcells ((id, at') :: es.drop i)) := by rw [hul]; exact ho2
          have HQ2 := Lib.hid (HQ.out.on hbD2)
          obtain ⟨v3, D3, happ2, ho3, hk3, hn3⟩ := app_upon D2 B (some ⟨g, off, none⟩) cap i es ((id, at') :: es.drop i) hi HQ2.out.own hc Wq.heap.size g2 c2 hsrc (by simp) (Nat.le_trans HQ2.out.base (Nat.le_of_lt HQ2.out.lt)) (by have := HL.out; rw [hul]; omega)
          rw [hul] at happ2
          have hT : T = es.take i ++ (id, at') :: es.drop i := by rw [HE.out, ← HIK.out]
          rw [← hT] at ho3
          have hbD : Below w1.heap.size w1 D2 := hbq.trans (hbD2.mono hbq.size)
          have hr2 : D2.heap[w.heap.size]? = some (.cells #[.int .i64 0, .slice none 0 0] 39 (0, 0)) := keep_on hbD HR1.out
          have hr3 : D3.heap[w.heap.size]? = some (.cells #[.int .i64 0, .slice none 0 0] 39 (0, 0)) := (hk3.block _ (lt_heap hr2) (fun e => by
            obtain ⟨_, cur, hh⟩ := HQ2.out.own.block _ e
            rw [hr2] at hh
            simp only [Option.some.injEq, Obj.cells.injEq] at hh
            exact absurd hh.2.1 (by decide))).trans hr2
          have hrt : ∀ q, v3.ownBlock = some q → q ≠ w.heap.size := fun q e e2 => by
            obtain ⟨_, cur, hh⟩ := ho3.block q e
            rw [e2, hr3] at hh
            simp only [Option.some.injEq, Obj.cells.injEq] at hh
            exact absurd hh.2.1 (by decide)
          have hpr : p ≠ w.heap.size := by have := HP.out; omega
          have hr4 : (D3.setCell ⟨p, 1, none⟩ v3).heap[w.heap.size]? = some (.cells #[.int .i64 0, .slice none 0 0] 39 (0, 0)) := ((Off.set (fun k => k = p) D3 ⟨p, 1, none⟩ v3 rfl).block _ (lt_heap hr3) (by omega)).trans hr3
          obtain ⟨r0, r1, g0, g1⟩ := cell2 hr4
          have HZ := Lib.hid (RTurned.end_ (W := ((D3.setCell ⟨p, 1, none⟩ v3).setCell ⟨w.heap.size, 0, none⟩ (.int .i64 0)).setCell ⟨w.heap.size, 1, none⟩ (.slice none 0 0)) (Nat.le_refl _) HP.out HO1.out.1 HO1.out.2 H1.out hbD ho3 hk3 hn3 rfl hrt)
          have e0 : (((D3.setCell ⟨p, 1, none⟩ v3).setCell ⟨w.heap.size, 0, none⟩ (.int .i64 0)).setCell ⟨w.heap.size, 1, none⟩ (.slice none 0 0)).cell? ⟨w.heap.size, 0, none⟩ = some (.int .i64 0) := by
            rw [World.cell?_setCell_other _ _ _ _ (by simp)]
            exact World.cell?_setCell_same _ _ _ r0
          have e1 : (((D3.setCell ⟨p, 1, none⟩ v3).setCell ⟨w.heap.size, 0, none⟩ (.int .i64 0)).setCell ⟨w.heap.size, 1, none⟩ (.slice none 0 0)).cell? ⟨w.heap.size, 1, none⟩ = some (.slice none 0 0) :=
            World.cell?_setCell_same (u := .slice none 0 0) _ _ _ (by rw [World.cell?_setCell_other _ _ _ _ (by simp)]; exact r1)
          have HEE := Lib.hid (And.intro e0 e1)
          have HRR := Lib.hid (And.intro r0 (And.intro r1 (And.intro g0 g1)))
          clear e0 e1 r0 r1 g0 g1
          have c12 := HQ2.out.c1
          obtain ⟨s1, s2⟩ := HQ2.out.row_store hk3
          obtain ⟨av3, cv3, hvv3, hj3⟩ := ho3.form
          clear hj3
          subst hvv3
          have hcap0 : (i : Int) ≤ (cap : Int) := by omega
          have hle0 : (i : Int) ≤ (es.length : Int) := by omega
          have hi0q : (0 : Int) ≤ (i : Int) := by omega
          clear ho2 hsrc ho3 hk3 hn3 hbD2 hbD hr2 hr3 hr4 hrt hbq hxq hul hT hm hbr
          generalize T.length = nT at *
          generalize w1.heap.size = xb at *
          rcases hAA with ⟨hno, _⟩ | ⟨g', off', eg, rfl, rfl⟩
          · cases hno
          · simp only [Option.some.injEq, Addr.mk.injEq] at eg
            obtain ⟨rfl, rfl, _⟩ := eg
            go_wp2_with fail
            go_region_law (first
              | (refine step_append_run rfl (.tmp 91) (.tmp 97) 27 27 rfl _ _ (by simp [Act.eval, Act.put]) (by simp [Act.eval, Act.put]) happ1 ?_)
              | (refine step_append_run rfl (.tmp 89) (.tmp 98) 27 27 rfl _ _ (by simp [Act.eval, Act.put]) (by simp [Act.eval, Act.put]) happ2 ?_))
            all_goals
              clear s1 s2 c12 c1 x0 x1'
              obtain ⟨r0, r1, g0, g1⟩ := HRR.out
              obtain ⟨e0, e1⟩ := HEE.out
              go_wp2
              all_goals
                refine bodyPost_ret (v := .agg #[.int .i64 0, .slice none 0 0]) ?_ rfl ⟨rfl, HZ.out⟩
                simp [results, Tryd.results13, go_sem, e0, e1]
    · have hik : i = cnt (fun t => beforeT t (id, at')) es := by
        have := hbr.out.2
        rw [List.drop_eq_nil_of_le (by omega)] at this
        simpa [cnt] using this
      have HIK := Lib.hid hik
      clear hik
      have hil : (es.length : Int) ≤ (i : Int) := by omega
      go_wp2_with fail
      go_quiet (fail)
      have hbq : Below w1.heap.size w1 (wr.drewN nq) := below_drewN' HW.out _
      have hxq : (wr.drewN nq).heap[w1.heap.size]? = some (.cells #[.int .i64 id, .int .i64 at'] 75 (0, 0)) := HXR.out
      clear x0 x1' c1
      generalize wr.drewN nq = Wq at *
      have HBQ := Lib.hid hbq
      have HQ := Lib.hid (H1.out.on hbq)
      have c1 := HQ.out.c1
      have hpq : p < Wq.heap.size := HQ.out.lt
      have hxb : w1.heap.size < Wq.heap.size := lt_heap hxq
      have x0 : Wq.cell? ⟨w1.heap.size, 0, none⟩ = some (.int .i64 id) := by rw [cell_of_row _ _ _ _ _ _ hxq]; rfl
      have x1' : Wq.cell? ⟨w1.heap.size, 1, none⟩ = some (.int .i64 at') := by rw [cell_of_row _ _ _ _ _ _ hxq]; rfl
      obtain ⟨A, ca, g2, c2, D2, hAA, happ1, ho2, hbD2⟩ := inner_app Wq B ao cap i es id at' hi HQ.out.own hc HL.out
      have hul : ((id, at') :: es.drop i).length = 1 + (es.length - i) := by rw [List.length_cons, List.length_drop]; omega
      have hsrc : D2.ownsRow Wq.heap.size 75 2 (.slice (some ⟨g2, 0, none⟩) ((id, at') :: es.drop i).length c2) ((id, at') :: es.drop i).length (tcells ((id, at') :: es.drop i)) := by rw [hul]; exact ho2
      have HQ2 := Lib.hid (HQ.out.on hbD2)
      obtain ⟨v3, D3, happ2, ho3, hk3, hn3⟩ := app_upon D2 B ao cap i es ((id, at') :: es.drop i) hi HQ2.out.own hc Wq.heap.size g2 c2 hsrc (by simp) (Nat.le_trans HQ2.out.base (Nat.le_of_lt HQ2.out.lt)) (by have := HL.out; rw [hul]; omega)
      rw [hul] at happ2
      have hT : T = es.take i ++ (id, at') :: es.drop i := by rw [HE.out, ← HIK.out]
      rw [← hT] at ho3
      have hbD : Below w1.heap.size w1 D2 := hbq.trans (hbD2.mono hbq.size)
      have hr2 : D2.heap[w.heap.size]? = some (.cells #[.int .i64 0, .slice none 0 0] 39 (0, 0)) := keep_on hbD HR1.out
      have hr3 : D3.heap[w.heap.size]? = some (.cells #[.int .i64 0, .slice none 0 0] 39 (0, 0)) := (hk3.block _ (lt_heap hr2) (fun e => by
        obtain ⟨_, cur, hh⟩ := HQ2.out.own.block _ e
        rw [hr2] at hh
        simp only [Option.some.injEq, Obj.cells.injEq] at hh
        exact absurd hh.2.1 (by decide))).trans hr2
      have hrt : ∀ q, v3.ownBlock = some q → q ≠ w.heap.size := fun q e e2 => by
        obtain ⟨_, cur, hh⟩ := ho3.block q e
        rw [e2, hr3] at hh
        simp only [Option.some.injEq, Obj.cells.injEq] at hh
        exact absurd hh.2.1 (by decide)
      have hpr : p ≠ w.heap.size := by have := HP.out; omega
      have hr4 : (D3.setCell ⟨p, 1, none⟩ v3).heap[w.heap.size]? = some (.cells #[.int .i64 0, .slice none 0 0] 39 (0, 0)) := ((Off.set (fun k => k = p) D3 ⟨p, 1, none⟩ v3 rfl).block _ (lt_heap hr3) (by omega)).trans hr3
      obtain ⟨r0, r1, g0, g1⟩ := cell2 hr4
      have HZ := Lib.hid (RTurned.end_ (W := ((D3.setCell ⟨p, 1, none⟩ v3).setCell ⟨w.heap.size, 0, none⟩ (.int .i64 0)).setCell ⟨w.heap.size, 1, none⟩ (.slice none 0 0)) (Nat.le_refl _) HP.out HO1.out.1 HO1.out.2 H1.out hbD ho3 hk3 hn3 rfl hrt)
      have e0 : (((D3.setCell ⟨p, 1, none⟩ v3).setCell ⟨w.heap.size, 0, none⟩ (.int .i64 0)).setCell ⟨w.heap.size, 1, none⟩ (.slice none 0 0)).cell? ⟨w.heap.size, 0, none⟩ = some (.int .i64 0) := by
        rw [World.cell?_setCell_other _ _ _ _ (by simp)]
        exact World.cell?_setCell_same _ _ _ r0
      have e1 : (((D3.setCell ⟨p, 1, none⟩ v3).setCell ⟨w.heap.size, 0, none⟩ (.int .i64 0)).setCell ⟨w.heap.size, 1, none⟩ (.slice none 0 0)).cell? ⟨w.heap.size, 1, none⟩ = some (.slice none 0 0) :=
        World.cell?_setCell_same (u := .slice none 0 0) _ _ _ (by rw [World.cell?_setCell_other _ _ _ _ (by simp)]; exact r1)
      have HEE := Lib.hid (And.intro e0 e1)
      have HRR := Lib.hid (And.intro r0 (And.intro r1 (And.intro g0 g1)))
      clear e0 e1 r0 r1 g0 g1
      have c12 := HQ2.out.c1
      obtain ⟨s1, s2⟩ := HQ2.out.row_store hk3
      obtain ⟨av3, cv3, hvv3, hj3⟩ := ho3.form
      clear hj3
      subst hvv3
      have hcap0 : (i : Int) ≤ (cap : Int) := by omega
      have hle0 : (i : Int) ≤ (es.length : Int) := by omega
      have hi0q : (0 : Int) ≤ (i : Int) := by omega
      clear ho2 hsrc ho3 hk3 hn3 hbD2 hbD hr2 hr3 hr4 hrt hbq hxq hul hT hm hbr
      generalize T.length = nT at *
      generalize w1.heap.size = xb at *
      rcases hAA with ⟨rfl, rfl, rfl, rfl, rfl, rfl⟩ | ⟨g, off, rfl, rfl, rfl⟩
      · simp only [List.length_nil] at *
        go_wp2_with fail
        go_region_law (first
          | (refine step_append_run rfl (.tmp 91) (.tmp 97) 27 27 rfl _ _ (by simp [Act.eval, Act.put]) (by simp [Act.eval, Act.put]) happ1 ?_)
          | (refine step_append_run rfl (.tmp 89) (.tmp 98) 27 27 rfl _ _ (by simp [Act.eval, Act.put]) (by simp [Act.eval, Act.put]) happ2 ?_))
        all_goals
          clear s1 s2 c12 c1 x0 x1'
          obtain ⟨r0, r1, g0, g1⟩ := HRR.out
          obtain ⟨e0, e1⟩ := HEE.out
          go_wp2
          all_goals
            refine bodyPost_ret (v := .agg #[.int .i64 0, .slice none 0 0]) ?_ rfl ⟨rfl, HZ.out⟩
            simp [results, Tryd.results13, go_sem, e0, e1]
      · go_wp2_with fail
        go_region_law (first
          | (refine step_append_run rfl (.tmp 91) (.tmp 97) 27 27 rfl _ _ (by simp [Act.eval, Act.put]) (by simp [Act.eval, Act.put]) happ1 ?_)
          | (refine step_append_run rfl (.tmp 89) (.tmp 98) 27 27 rfl _ _ (by simp [Act.eval, Act.put]) (by simp [Act.eval, Act.put]) happ2 ?_))
        all_goals
          clear s1 s2 c12 c1 x0 x1'
          obtain ⟨r0, r1, g0, g1⟩ := HRR.out
          obtain ⟨e0, e1⟩ := HEE.out
          go_wp2
          all_goals
            refine bodyPost_ret (v := .agg #[.int .i64 0, .slice none 0 0]) ?_ rfl ⟨rfl, HZ.out⟩
            simp [results, Tryd.results13, go_sem, e0, e1]
end Go.Proofs.YtfefkkojdcipcaaDoor
