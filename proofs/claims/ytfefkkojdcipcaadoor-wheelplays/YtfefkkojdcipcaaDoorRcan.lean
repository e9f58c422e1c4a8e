/- yardref2.Wheel.Cancel in memory. -/
import Derived.Test.YtfefkkojdcipcaaDoorRef
import Derived.Shelf.Spec.SlicesInsert
namespace Go.Proofs.YtfefkkojdcipcaaDoor
open Go.RowKit Go.Extern.Stop Go.Stop Go.Extern

/-- append where its run is known, as one step of a region that draws. -/
theorem step_append_run {P : Program} {ops : Array Oper} {o : Oper} {a : Act} {w : World} {K : Act → World → Prop} {Q : Exit → Act → World → Prop} {E : Prop}
    (hg : o.guard = none) (d x : Operand) (dT sT : TypeId) (hop : o.op = Op.call { callee := Callee.builtin Builtin.append, args := #[d, x], argTypes := #[dT, sT] })
    (v u : Value) (hd : a.eval d = v) (hx : a.eval x = u) {v' : Value} {w' : World} (hr : (Builtin.append_ #[dT, sT] o.type #[v, u]).run P w = .ok v' w') (hK : K (a.put o.dst v') w') :
    if Region.wanted o (yielded ops a.tmps) = true then Oper.wp P o a w K Q else E := by
  have hw : Region.wanted o (yielded ops a.tmps) = true := by simp [Region.wanted, hg]
  rw [if_pos hw]
  unfold Oper.wp
  simp [execOp, hop, resolve, invoke, builtin, hd, hx, hr, Result.andThen]
  exact hK
theorem info75p : ∃ i0, Tryd.prog.info? 75 = some i0 ∧ i0.zero = some zT ∧ i0.size = 2 ∧ i0.bytes = 16 := by
  have : (Tryd.prog.info? 75).map (fun i => (i.zero, i.size, i.bytes)) = some (some (.agg #[.int .i64 0, .int .i64 0]), 2, 16) := by kernel_rfl
  cases h : Tryd.prog.info? 75 with
  | none => rw [h] at this; cases this
  | some i0 => rw [h] at this; simp at this; exact ⟨i0, rfl, this.1, this.2.1, this.2.2⟩
/-- append of timers that lie somewhere onto a row of one's own. -/
theorem app_timers (W : World) (B : Nat) (xo : Value) (os us : List (Int × Int)) (ad : Addr) (c : Nat) (hown : W.ownsRow B 75 2 xo os.length (tcells os)) (ha : ∀ j u, (tcells us)[j]? = some u → W.cell? (ad.add j) = some u) (hB : B ≤ W.heap.size) (hl : os.length + us.length ≤ 1000000) :
    ∃ v' w', (Builtin.append_ #[27, 27] 27 #[xo, .slice (some ad) us.length c]).run Tryd.prog W = .ok v' w' ∧ w'.ownsRow B 75 2 v' (os.length + us.length) (tcells (os ++ us)) ∧ W.grownBy w' xo.ownBlock := by
  obtain ⟨i0, hi0, hz0, hz1, hz2⟩ := info75p
  obtain ⟨v', w', h1, h2, h3, _⟩ := run_append_own_at (P := Tryd.prog) W B 27 27 75 i0 zT 2 16 Tryd.underlying27 hi0 hz0 hz1 hz2 rfl (by omega) xo os.length (tcells os) hown ad us.length c (tcells us) (tcells_length us) ha (tcells_one us) (by unfold maxLen; omega) (by omega) hB
  exact ⟨v', w', h1, by rw [tcells_append]; exact h2, h3⟩
theorem made_empty75 (w : World) : (w.alloc (.cells #[] 75)).ownsRow w.heap.size 75 2 (.slice (some ⟨w.heap.size, 0, none⟩) 0 0) 0 [] := World.ownsRow_made w #[] 0 (Nat.le_refl _) (Nat.zero_le _) (by simp)
theorem rrow_of {w : World} {B B' : Nat} {v : Value} {ts : List (Int × Int)} {n : Nat} (h : w.ownsRow B' 75 2 v n (tcells ts)) (hn : n = ts.length) (hB : B ≤ B') : RRow w B v ts := by
  subst hn
  rcases h.2 with ⟨hv, h0⟩ | ⟨g, cap, cur, hv, hb, hh, hc, hm, hz, hx⟩
  · exact .inl ⟨hv, List.length_eq_zero_iff.1 h0⟩
  · exact .inr ⟨g, 0, cap, cur, hv, Nat.le_trans hB hb, hh, hc, by unfold maxLen at hm; omega, fun _ => by omega, by simpa using hx⟩
/-- The document's Wheel takes a new row. -/
theorem RwAt.row {w w1 : World} {B p : Nat} {now : Int} {v v' : Value} {ts ts' : List (Int × Int)} (h : RwAt w B p now v ts) (ho : RRow w1 B v' ts') (hk : Off (fun k => v.ownBlock = some k) w w1) (hb : ∀ k, v'.ownBlock = some k → v.ownBlock = some k ∨ w.heap.size ≤ k) :
    RTurned w B p v now ts' (w1.setCell ⟨p, 1, none⟩ v') := by
  have hp : w1.heap[p]? = some (.cells #[.int .i64 now, v] 29 (0, 0)) := (hk.block p h.lt h.ne).trans h.obj
  refine ⟨v', ⟨h.base, by rw [heap_set _ _ _ _ _ _ _ hp]; rfl, ?_⟩, ?_, hb⟩
  · refine ho.off (Off.set (fun k => k = p) w1 ⟨p, 1, none⟩ _ rfl) (fun k e s => ?_)
    obtain ⟨_, cur, hh⟩ := ho.block k e
    subst s
    rw [hp] at hh
    simp only [Option.some.injEq, Obj.cells.injEq] at hh
    exact absurd hh.2.1 (by decide)
  · exact (hk.mono (fun k _ s => .inr s)).trans (Off.set _ _ ⟨p, 1, none⟩ _ (.inl rfl))
theorem RwAt.row_store {w w1 : World} {B p : Nat} {now : Int} {v : Value} {ts : List (Int × Int)} (h : RwAt w B p now v ts) (hk : Off (fun k => v.ownBlock = some k) w w1) : w1.cell? ⟨p, 1, none⟩ = some v ∧ w1.frozen? ⟨p, 1, none⟩ = false := by
  have hp : w1.heap[p]? = some (.cells #[.int .i64 now, v] 29 (0, 0)) := (hk.block p h.lt h.ne).trans h.obj
  exact ⟨by rw [cell_of_row _ _ _ _ _ _ hp]; rfl, frozen_of_row _ _ _ _ _ hp⟩
/-- The cells of a row of the document's, from the i-th timer on. -/
theorem RRow.news {w : World} {B : Nat} {ao : Option Addr} {cap : Nat} {ts : List (Int × Int)} (h : RRow w B (.slice ao ts.length cap) ts) (hn : 0 < ts.length) : ∃ g off, ao = some ⟨g, off, none⟩ ∧ g < w.heap.size ∧ ∀ i W, Below w.heap.size w W → ∀ j u, (tcells (ts.drop i))[j]? = some u → W.cell? ⟨g, off + i * 2 + j, none⟩ = some u := by
  rcases h with ⟨_, h0⟩ | ⟨g, off, cap', cur, hv, _, hh, hc, hm, hz, hx⟩
  · subst h0; simp at hn
  · simp only [Value.slice.injEq] at hv
    obtain ⟨rfl, _, rfl⟩ := hv
    refine ⟨g, off, rfl, lt_heap hh, fun i W hb j u hj => ?_⟩
    rw [hb.cell (p := ⟨g, off + i * 2 + j, none⟩) (lt_heap hh), cell_of_row _ _ _ _ _ _ hh, ← Array.getElem?_toList]
    rw [← tcells_drop, List.getElem?_drop, ← hx, List.getElem?_take] at hj
    split at hj
    · rwa [List.getElem?_drop, ← Nat.add_assoc] at hj
    · cases hj

set_option maxRecDepth 100000 in
set_option maxHeartbeats 4000000 in
theorem rcancel_any (B p : Nat) (now : Int) (v : Value) (ts : List (Int × Int)) (id : Int) (w : World) (h : RwAt w B p now v ts) (hl : ts.length ≤ 1000) :
    Calls Tryd.prog 15 #[.pointer (some ⟨p, 0, none⟩), .int .i64 id] w fun e w' => e = .returned (.bool (atT ts id).isSome) ∧ RTurned w B p v now (eraseT ts id) w' := by
  have c1 := h.c1
  have hp := h.lt
  have H := Lib.hid h
  obtain ⟨ao, cap, rfl, hc, hm, hcs⟩ := h.form
  have HL := Lib.hid hl
  have HC := Lib.hid hcs
  clear h hl hcs
  go_enter Tryd.func15, Tryd.ntmps15
  go_wp2
  go_loopg [5] ts.length (fun k s5 wr => ∃ i : Nat, i ≤ ts.length ∧ k = ts.length - i ∧ s5 = .int .i64 i ∧ Hid (w = wr ∧ findFrom (ts.drop i) id i = findFrom ts id 0))
  case atStart => exact ⟨0, Nat.zero_le _, rfl, rfl, Lib.hid ⟨rfl, rfl⟩⟩
  case round =>
    obtain ⟨i, hi, rfl, rfl, hbr⟩ := hrel
    obtain ⟨hwe, hat⟩ := hbr.out
    subst hwe
    have HAT := Lib.hid hat
    clear hat hbr
    by_cases hlt : i < ts.length
    · obtain ⟨g, off, hg, p0, p1⟩ := HC.out i hlt
      subst hg
      have hi0 : (0 : Int) ≤ (i : Int) := by omega
      have hil : (i : Int) < (ts.length : Int) := by omega
      have hd : ts.drop i = ts[i] :: ts.drop (i + 1) := List.drop_eq_getElem_cons hlt
      have HD := Lib.hid hd
      clear hd
      obtain ⟨t1, ht1⟩ : ∃ t1, t1 = ts[i].1 := ⟨_, rfl⟩
      rw [← ht1] at p0
      have HT1 := Lib.hid ht1
      clear ht1 p1
      by_cases hq : t1 = id
      · have hq' : (t1 == id) = true := by simpa using hq
        have HF : Hid (atT ts id = some ts[i].2 ∧ eraseT ts id = ts.take i ++ ts.drop (i + 1)) := Lib.hid (by
          have h1 := HAT.out
          rw [HD.out, findFrom, if_pos (by rw [← HT1.out]; exact hq)] at h1
          rcases find_cases ts id 0 with ⟨h2, _⟩ | ⟨j, hj, h2, h3, h4⟩
          · omega
          · have : j = i := by omega
            subst this
            exact ⟨h3, h4⟩)
        clear hq
        have hnews := H.out.own.news (by omega)
        obtain ⟨g', off', e, hglt, hcell⟩ := hnews
        simp only [Option.some.injEq, Addr.mk.injEq] at e
        obtain ⟨rfl, rfl, _⟩ := e
        have hb1 : Below w.heap.size w (w.drew.alloc (.cells #[] 75)) := (Below.refl w.heap.size w).drew.alloc (Nat.le_refl _) _
        obtain ⟨v2, W2, happ1, ho2, hg2⟩ := app_timers (w.drew.alloc (.cells #[] 75)) w.heap.size (.slice (some ⟨w.heap.size, 0, none⟩) 0 0) [] (ts.take i) ⟨g, off, none⟩ cap (made_empty75 w.drew) (fun j u hj => by
          have h1 := hcell 0 _ hb1 j u (by
            rw [List.drop_zero]
            rw [← tcells_take, List.getElem?_take] at hj
            split at hj
            · exact hj
            · cases hj)
          rw [Addr.add_lit]
          simpa using h1) (by simp) (by have := HL.out; simp; omega)
        rw [show ([] : List (Int × Int)).length + (ts.take i).length = i by rw [List.length_take]; simp; omega, List.nil_append] at ho2
        rw [show (ts.take i).length = i by rw [List.length_take]; omega] at happ1
        have hb2 : Below w.heap.size w W2 := hb1.grown hg2 (by simp) (by intro k hk; simp [Value.ownBlock] at hk; omega)
        have hS2 : w.heap.size ≤ W2.heap.size := hb2.size
        obtain ⟨A, hA, hAc⟩ : ∃ A : Addr, (if cap = i + 1 then some (⟨g, off, none⟩ : Addr) else some ⟨g, off + (i + 1) * 2, none⟩) = some A ∧ ∀ j u, (tcells (ts.drop (i + 1)))[j]? = some u → W2.cell? (A.add j) = some u := by
          by_cases hq : cap = i + 1
          · refine ⟨⟨g, off, none⟩, by simp [hq], fun j u hj => ?_⟩
            rw [List.drop_eq_nil_of_le (by omega)] at hj
            simp [tcells] at hj
          · refine ⟨⟨g, off + (i + 1) * 2, none⟩, by simp [hq], fun j u hj => ?_⟩
            rw [Addr.add_lit]
            exact hcell (i + 1) W2 hb2 j u hj
        obtain ⟨v3, W3, happ2, ho3, hg3⟩ := app_timers W2 w.heap.size v2 (ts.take i) (ts.drop (i + 1)) A (cap - (i + 1)) (by rw [show (ts.take i).length = i by rw [List.length_take]; omega]; exact ho2) hAc hS2 (by have := HL.out; simp; omega)
        rw [show (ts.drop (i + 1)).length = ts.length - (i + 1) by rw [List.length_drop]] at happ2
        have hb3 : Below w.heap.size w W3 := hb2.grown hg3 hS2 (fun k hk => (ho2.lt k hk).1)
        have c12 : W2.cell? ⟨p, 1, none⟩ = some (.slice (some ⟨g, off, none⟩) ts.length cap) := (hb2.cell (p := ⟨p, 1, none⟩) hp).trans c1
        obtain ⟨s1, s2⟩ := H.out.row_store (Off.of_below (fun k => (Value.slice (some ⟨g, off, none⟩) ts.length cap).ownBlock = some k) hb3)
        have HR := Lib.hid (H.out.row (v' := v3) (ts' := ts.take i ++ ts.drop (i + 1)) (rrow_of ho3 (by simp) (Nat.le_trans H.out.base (Nat.le_of_lt hp))) (Off.of_below _ hb3) (fun k hk => .inr (ho3.lt k hk).1))
        obtain ⟨av2, cv2, rfl⟩ := row_slice ho2
        obtain ⟨av3, cv3, rfl⟩ := row_slice ho3
        have hw1 : IntKind.i64.wrap ((i : Int) + 1) = (i : Int) + 1 := by rw [IntKind.wrap_i64]; have := HL.out; omega
        have hw2 : wrap64 ((i : Int) + 1) = (i : Int) + 1 := by unfold wrap64; have := HL.out; omega
        have htn : ((i : Int) + 1).toNat = i + 1 := by omega
        have hb5 : (i : Int) + 1 ≤ (ts.length : Int) := by omega
        have hb6 : (0 : Int) ≤ (i : Int) + 1 := by omega
        have hic : (i : Int) ≤ (cap : Int) := by omega
        clear hcell hb1 hb2 hb3 ho2 ho3 hg2 hg3 hAc hS2
        generalize (ts.take i).length + (ts.drop (i + 1)).length = nn at *
        go_wp2_with fail
        go_region_law (first
          | (refine step_append_run rfl (.tmp 26) (.tmp 32) 27 27 rfl _ _ (by simp [Act.eval, Act.put]) (by simp [Act.eval, Act.put]) happ1 ?_)
          | (refine step_append_run rfl (.tmp 33) (.tmp 40) 27 27 rfl _ _ (by simp [Act.eval, Act.put]) (by simp [Act.eval, Act.put]) happ2 ?_))
        all_goals
          clear s1 s2 c12
          go_wp2
          go_ret
          rw [HF.out.1, HF.out.2]
          exact ⟨rfl, HR.out⟩
      · have hq' : (t1 == id) = false := by simpa using hq
        have HQ := Lib.hid hq
        clear hq
        go_wp2
        go_roundg (ts.length - (i + 1))
        case measure => omega
        case rel =>
          have := HAT.out
          rw [HD.out, findFrom, if_neg (by rw [← HT1.out]; exact HQ.out)] at this
          exact ⟨i + 1, by omega, rfl, (by first | exact next_int i (by have := HL.out; omega) | exact congrArg _ (by omega)), Lib.hid ⟨rfl, this⟩⟩
    · have hil : (ts.length : Int) ≤ (i : Int) := by omega
      have HF : Hid (atT ts id = none ∧ eraseT ts id = ts) := Lib.hid (by
        have h1 := HAT.out
        rw [List.drop_eq_nil_of_le (by omega), findFrom] at h1
        rcases find_cases ts id 0 with ⟨_, h3, h4⟩ | ⟨j, hj, h2, _⟩
        · exact ⟨h3, h4⟩
        · omega)
      go_wp2
      go_ret
      rw [HF.out.1, HF.out.2]
      exact ⟨rfl, _, H.out, Off.refl _ _, fun k hk => .inl hk⟩
end Go.Proofs.YtfefkkojdcipcaaDoor
