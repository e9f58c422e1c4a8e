/- yardref2.Wheel.Tick in memory. -/
import Derived.Test.YtfefkkojdcipcaaDoorRset0
import Derived.Test.YtfefkkojdcipcaaDoorRlist
namespace Go.Proofs.YtfefkkojdcipcaaDoor
open Go.RowKit Go.Extern.Stop Go.Stop Go.Extern

set_option maxRecDepth 100000 in
set_option maxHeartbeats 1000000 in
theorem rtick_bad (p : Nat) (n : Int) (w : World) (hbad : ¬ (0 ≤ n ∧ n ≤ 1099511627776)) :
    Calls Tryd.prog 17 #[.pointer (some ⟨p, 0, none⟩), .int .i64 n] w fun e w' => ∃ g, e = .returned (.tuple #[.slice none 0 0, .agg #[.int .i64 1, .slice (some ⟨g, 0, none⟩) 1 1]]) ∧ StepsOwn w' (.slice (some ⟨g, 0, none⟩) 1 1) [(sWheel, n)] ∧ Below w.heap.size w w' := by
  have HB0 : Hid (Below w.heap.size w (w.alloc (.cells #[.int .i64 0, .slice none 0 0] 39))) := Lib.hid (below_new _ _)
  have HRB : Hid ((w.alloc (.cells #[.int .i64 0, .slice none 0 0] 39)).heap[w.heap.size]? = some (.cells #[.int .i64 0, .slice none 0 0] 39 (0, 0))) := Lib.hid (heap_alloc_new w _)
  have hcase : n < 0 ∨ (0 ≤ n ∧ 1099511627776 < n) := by omega
  clear hbad
  rcases hcase with h0 | ⟨h0, h1⟩
  all_goals
    go_enter Tryd.func17, Tryd.ntmps17
    go_wp2_with fail
    generalize w.alloc (.cells #[.int .i64 0, .slice none 0 0] 39) = wa at *
    refine (yat_any sWheel n 1 wa).mono ?_
    rintro e w1 ⟨⟨g, rfl, hst⟩, hb⟩
    have HB1 := Lib.hid hb
    have hres := keep_on hb HRB.out
    obtain ⟨r0, r1, g0, g1⟩ := cell2 hres
    have e0 : ((w1.setCell ⟨w.heap.size, 0, none⟩ (.int .i64 1)).setCell ⟨w.heap.size, 1, none⟩ (.slice (some ⟨g, 0, none⟩) 1 1)).cell? ⟨w.heap.size, 0, none⟩ = some (.int .i64 1) := by
      rw [World.cell?_setCell_other _ _ _ _ (by simp)]
      exact World.cell?_setCell_same _ _ _ r0
    have e1 : ((w1.setCell ⟨w.heap.size, 0, none⟩ (.int .i64 1)).setCell ⟨w.heap.size, 1, none⟩ (.slice (some ⟨g, 0, none⟩) 1 1)).cell? ⟨w.heap.size, 1, none⟩ = some (.slice (some ⟨g, 0, none⟩) 1 1) :=
      World.cell?_setCell_same (u := .slice none 0 0) _ _ _ (by rw [World.cell?_setCell_other _ _ _ _ (by simp)]; exact r1)
    have HS2 := Lib.hid (stepsOwn_set (j := 1) (u := .slice (some ⟨g, 0, none⟩) 1 1) (n := 1) (stepsOwn_set (j := 0) (u := .int .i64 1) hst r0) (World.cell?_setCell_same _ _ _ r0))
    clear hst hb hres
    go_wp2
    refine bodyPost_ret (v := .tuple #[.slice none 0 0, .agg #[.int .i64 1, .slice (some ⟨g, 0, none⟩) 1 1]]) ?_ rfl ⟨g, rfl, HS2.out, ((HB0.out.trans (HB1.out.mono HB0.out.size)).setCell (Nat.le_refl _) _).setCell (Nat.le_refl _) _⟩
    simp [results, Tryd.results17, go_sem, e0, e1]
theorem RwAt.clock {w : World} {B p : Nat} {now : Int} {v : Value} {ts : List (Int × Int)} (h : RwAt w B p now v ts) (t : Int) : RwAt (w.setCell ⟨p, 0, none⟩ (.int .i64 t)) B p t v ts := by
  refine ⟨h.base, by rw [heap_set _ _ _ _ _ _ _ h.obj]; rfl, h.own.off (Off.set (fun k => k = p) w ⟨p, 0, none⟩ _ rfl) (fun k e s => ?_)⟩
  exact h.ne (by rw [e, s])
/-- The row without its first timer. -/
theorem RRow.tail {w : World} {B : Nat} {ao : Option Addr} {cap : Nat} {t : Int × Int} {l : List (Int × Int)} (h : RRow w B (.slice ao (t :: l).length cap) (t :: l)) : ∃ g off, ao = some ⟨g, off, none⟩ ∧ 1 ≤ cap ∧ cap ≤ 9223372036854775807 ∧ RRow w B (.slice (if cap = 1 then some ⟨g, off, none⟩ else some ⟨g, off + 2, none⟩) l.length (cap - 1)) l := by
  rcases h with ⟨_, h0⟩ | ⟨g, off, cap', cur, hv, hB, hh, hc, hm, hz, hx⟩
  · cases h0
  · simp only [Value.slice.injEq] at hv
    obtain ⟨rfl, _, rfl⟩ := hv
    rw [List.length_cons] at hc hx
    refine ⟨g, off, rfl, by omega, hm, ?_⟩
    have hz' := hz (by omega)
    by_cases h1 : cap = 1
    · rw [if_pos h1]
      have hl : l = [] := List.length_eq_zero_iff.1 (by omega)
      subst hl
      refine .inr ⟨g, off, cap - 1, cur, rfl, hB, hh, by simp, by omega, fun _ => by omega, by simp [tcells]⟩
    · rw [if_neg h1]
      refine .inr ⟨g, off + 2, cap - 1, cur, rfl, hB, hh, by omega, by omega, fun _ => by omega, ?_⟩
      have h2 := congrArg (List.drop 2) hx
      rw [List.drop_take, List.drop_drop, show (l.length + 1) * 2 - 2 = l.length * 2 by omega] at h2
      obtain ⟨t1, t2⟩ := t
      simpa [tcells] using h2
theorem RTurned.keep {w w1 w2 : World} {B p : Nat} {v v1 : Value} {now2 : Int} {ts2 : List (Int × Int)} (ho : Off (Wrote p v) w w1) (hn : ∀ k, v1.ownBlock = some k → v.ownBlock = some k ∨ w.heap.size ≤ k) (ht : RTurned w1 B p v1 now2 ts2 w2) : RTurned w B p v now2 ts2 w2 := by
  obtain ⟨v', h1, h2, h3⟩ := ht
  refine ⟨v', h1, ⟨h2.os.trans ho.os, h2.tape.trans ho.tape, h2.output.trans ho.output, Nat.le_trans ho.size h2.size, fun k hk hs => ?_⟩, fun k hk => ?_⟩
  · refine (h2.block k (Nat.lt_of_lt_of_le hk ho.size) fun s => ?_).trans (ho.block k hk hs)
    rcases s with rfl | s
    · exact hs (.inl rfl)
    · rcases hn k s with s | s
      · exact hs (.inr s)
      · omega
  · rcases h3 k hk with h | h
    · exact hn k h
    · exact .inr (Nat.le_trans ho.size h)

/-- A row of numbers is no block of the document's Wheel. -/
theorem ints_apartR {w : World} {B' : Nat} {x : Value} {l : List Int} (h : w.ownsRow B' 3 1 x l.length (icells l)) {B p : Nat} {now : Int} {v : Value} {ts : List (Int × Int)} (hw : RwAt w B p now v ts) (k : Nat) (hk : x.ownBlock = some k) : ¬ Wrote p v k := by
  rintro (rfl | e)
  · exact row_no h hw.obj (by decide) hk
  · obtain ⟨_, cur, hh⟩ := hw.own.block k e
    exact row_no h hh (by decide) hk
/-- The document's Wheel at the loop of Tick. -/
structure TInv (w : World) (B p : Nat) (v : Value) (t : Int) (ts dn rs : List (Int × Int)) (v1 xo : Value) (wr : World) : Prop where
  cut : ts = dn ++ rs
  due : ∀ s ∈ dn, s.2 ≤ t
  wh : RwAt wr B p t v1 rs
  blk : v1.ownBlock = v.ownBlock
  out : wr.ownsRow w.heap.size 3 1 xo (dn.map (·.1)).length (icells (dn.map (·.1)))
  res : wr.heap[w.heap.size]? = some (.cells #[.int .i64 0, .slice none 0 0] 39 (0, 0))
  off : Off (Wrote p v) w wr
theorem due_app {t : Int} {dn rs : List (Int × Int)} (h : ∀ s ∈ dn, s.2 ≤ t) (hr : ∀ x l, rs = x :: l → ¬ x.2 ≤ t) : dueT t (dn ++ rs) = dn ∧ restT t (dn ++ rs) = rs := by
  induction dn with
  | nil =>
    cases rs with
    | nil => exact ⟨rfl, rfl⟩
    | cons x l =>
      have hx := hr x l rfl
      unfold dueT restT
      rw [List.nil_append, List.takeWhile_cons_of_neg (by simpa using hx), List.dropWhile_cons_of_neg (by simpa using hx)]
      exact ⟨rfl, rfl⟩
  | cons d dn ih =>
    have hd : d.2 ≤ t := h d (by simp)
    obtain ⟨h1, h2⟩ := ih (fun s hs => h s (List.mem_cons_of_mem _ hs))
    unfold dueT restT at *
    rw [List.cons_append, List.takeWhile_cons_of_pos (by simpa using hd), List.dropWhile_cons_of_pos (by simpa using hd), h1, h2]
    exact ⟨rfl, rfl⟩
theorem tinv_next {w wq w6 : World} {B p : Nat} {v : Value} {t : Int} {ts dn : List (Int × Int)} {x : Int × Int} {l : List (Int × Int)} {v1 xo v6 v2 : Value} {o : Obj} (h : TInv w B p v t ts dn (x :: l) v1 xo wq) (hx : x.2 ≤ t)
    (ho6 : w6.ownsRow w.heap.size 3 1 v6 ((dn.map (·.1)) ++ [x.1]).length (icells ((dn.map (·.1)) ++ [x.1]))) (hk6 : Off (fun k => xo.ownBlock = some k) (wq.alloc o) w6) (hrow : ∀ W, RRow W B v1 (x :: l) → RRow W B v2 l) (hb2 : v2.ownBlock = v1.ownBlock) :
    RwAt w6 B p t v1 (x :: l) ∧ TInv w B p v t ts (dn ++ [x]) l v2 v6 (w6.setCell ⟨p, 1, none⟩ v2) := by
  have hba : Below wq.heap.size wq (wq.alloc o) := (Below.refl _ _).alloc (Nat.le_refl _) _
  have hwa := h.wh.on hba
  have hoa := h.out.alloc o
  have hw6 : RwAt w6 B p t v1 (x :: l) := hwa.off hk6 (fun k h1 h2 => ints_apartR hoa hwa k h2 h1)
  have hne : ∀ k, xo.ownBlock = some k → w.heap.size ≤ k := fun k e => (hoa.lt k e).1
  have hp : p < w.heap.size ∨ w.heap.size ≤ p := by omega
  have hra : (wq.alloc o).heap[w.heap.size]? = some (.cells #[.int .i64 0, .slice none 0 0] 39 (0, 0)) := keep_on hba h.res
  have hr6 : w6.heap[w.heap.size]? = some (.cells #[.int .i64 0, .slice none 0 0] 39 (0, 0)) := (hk6.block _ (lt_heap hra) (fun e => row_no hoa hra (by decide) e)).trans hra
  have hoff6 : Off (Wrote p v) w w6 := ⟨hk6.os.trans h.off.os, hk6.tape.trans h.off.tape, hk6.output.trans h.off.output, Nat.le_trans h.off.size (Nat.le_trans hba.size hk6.size), fun k hk hs => by
    rw [hk6.block k (by have := h.off.size; have := hba.size; omega) (fun e => by have := hne k e; omega), hba.block k (by have := h.off.size; omega), h.off.block k hk hs]⟩
  have hs := Off.set (fun k => k = p) w6 ⟨p, 1, none⟩ v2 rfl
  refine ⟨hw6, ⟨by rw [h.cut, List.append_assoc]; rfl, fun s hs' => ?_, ⟨h.wh.base, by rw [heap_set _ _ _ _ _ _ _ hw6.obj]; rfl, ?_⟩, hb2.trans h.blk, ?_, ?_, ?_⟩⟩
  · rcases List.mem_append.1 hs' with h1 | h1
    · exact h.due s h1
    · rw [List.mem_singleton.1 h1]; exact hx
  · refine (hrow _ hw6.own).off hs (fun k e e2 => ?_)
    rw [hb2] at e
    exact hw6.ne (by rw [e, e2])
  · rw [List.map_append]
    exact ownsRow_off ho6 hs (fun k e e2 => row_no ho6 hw6.obj (by decide) (by rw [e, e2]))
  · refine (hs.block _ (lt_heap hr6) (fun e => ?_)).trans hr6
    have h1 := hw6.obj
    rw [← e, hr6] at h1
    simp only [Option.some.injEq, Obj.cells.injEq] at h1
    exact absurd h1.2.1 (by decide)
  · exact hoff6.trans (Off.set _ _ _ _ (.inl rfl))

theorem TInv.on {w wr w' : World} {B p : Nat} {v : Value} {t : Int} {ts dn rs : List (Int × Int)} {v1 xo : Value} (h : TInv w B p v t ts dn rs v1 xo wr) (hb : Below wr.heap.size wr w') : TInv w B p v t ts dn rs v1 xo w' :=
  ⟨h.cut, h.due, h.wh.on hb, h.blk, ownsRow_below h.out hb, keep_on hb h.res, h.off.trans (Off.of_below _ hb)⟩
theorem tinv_end {w wq : World} {B p : Nat} {v : Value} {t : Int} {ts dn rs : List (Int × Int)} {v1 xo : Value} (h : TInv w B p v t ts dn rs v1 xo wq) (hr : ∀ x l, rs = x :: l → ¬ x.2 ≤ t) :
    IntsOwn ((wq.setCell ⟨w.heap.size, 0, none⟩ (.int .i64 0)).setCell ⟨w.heap.size, 1, none⟩ (.slice none 0 0)) xo ((dueT t ts).map (·.1)) ∧ RTurned w B p v t (restT t ts) ((wq.setCell ⟨w.heap.size, 0, none⟩ (.int .i64 0)).setCell ⟨w.heap.size, 1, none⟩ (.slice none 0 0)) ∧
    ((wq.setCell ⟨w.heap.size, 0, none⟩ (.int .i64 0)).setCell ⟨w.heap.size, 1, none⟩ (.slice none 0 0)).cell? ⟨w.heap.size, 0, none⟩ = some (.int .i64 0) ∧ ((wq.setCell ⟨w.heap.size, 0, none⟩ (.int .i64 0)).setCell ⟨w.heap.size, 1, none⟩ (.slice none 0 0)).cell? ⟨w.heap.size, 1, none⟩ = some (.slice none 0 0) := by
  have hs : Off (fun k => k = w.heap.size) wq ((wq.setCell ⟨w.heap.size, 0, none⟩ (.int .i64 0)).setCell ⟨w.heap.size, 1, none⟩ (.slice none 0 0)) := (Off.set (fun k => k = w.heap.size) _ ⟨w.heap.size, 0, none⟩ _ rfl).trans (Off.set (fun k => k = w.heap.size) _ ⟨w.heap.size, 1, none⟩ _ rfl)
  obtain ⟨hd1, hd2⟩ := due_app h.due hr
  rw [h.cut, hd1, hd2]
  obtain ⟨r0, r1, _, _⟩ := cell2 h.res
  have hne : ∀ k, Wrote p v1 k → k ≠ w.heap.size := fun k hk e => by
    subst e
    rcases hk with e | e
    · have h1 := h.wh.obj
      rw [← e, h.res] at h1
      simp only [Option.some.injEq, Obj.cells.injEq] at h1
      exact absurd h1.2.1 (by decide)
    · obtain ⟨_, cur, hh⟩ := h.wh.own.block _ e
      rw [h.res] at hh
      simp only [Option.some.injEq, Obj.cells.injEq] at hh
      exact absurd hh.2.1 (by decide)
  refine ⟨⟨w.heap.size, ownsRow_off h.out hs (fun k e e2 => row_no h.out h.res (by decide) (by rw [e, e2]))⟩, ⟨v1, h.wh.off hs hne, ?_, fun k e => .inl (by rw [← h.blk]; exact e)⟩, ?_, ?_⟩
  · exact ⟨hs.os.trans h.off.os, hs.tape.trans h.off.tape, hs.output.trans h.off.output, Nat.le_trans h.off.size hs.size, fun k hk hw => (hs.block k (by have := h.off.size; omega) (by omega)).trans (h.off.block k hk hw)⟩
  · rw [World.cell?_setCell_other _ _ _ _ (by simp)]
    exact World.cell?_setCell_same _ _ _ r0
  · exact World.cell?_setCell_same (u := .slice none 0 0) _ _ _ (by rw [World.cell?_setCell_other _ _ _ _ (by simp)]; exact r1)

set_option maxRecDepth 100000 in
set_option maxHeartbeats 4000000 in
theorem rtick_ok (B p : Nat) (now : Int) (v : Value) (ts : List (Int × Int)) (n : Int) (w : World) (h : RwAt w B p now v ts) (hl : ts.length ≤ 1000) (h0 : 0 ≤ n) (h1 : n ≤ 1099511627776) (hn0 : 0 ≤ now) (hn1 : now ≤ 1099511627776) :
    Calls Tryd.prog 17 #[.pointer (some ⟨p, 0, none⟩), .int .i64 n] w fun e w' => ∃ x, e = .returned (.tuple #[x, .agg #[.int .i64 0, .slice none 0 0]]) ∧ IntsOwn w' x ((dueT (laterT now n) ts).map (·.1)) ∧ RTurned w B p v (laterT now n) (restT (laterT now n) ts) w' := by
  have HB0 : Hid (Below w.heap.size w (w.alloc (.cells #[.int .i64 0, .slice none 0 0] 39))) := Lib.hid (below_new _ _)
  have HRB : Hid ((w.alloc (.cells #[.int .i64 0, .slice none 0 0] 39)).heap[w.heap.size]? = some (.cells #[.int .i64 0, .slice none 0 0] 39 (0, 0))) := Lib.hid (heap_alloc_new w _)
  have HLT : Hid (∀ W, Calls Tryd.prog 34 #[.int .i64 now, .int .i64 n] W fun e w' => e = .returned (.int .i64 (laterT now n)) ∧ W = w') := Lib.hid fun W => rlater_any now n hn0 hn1 h0 h1 W
  generalize laterT now n = t at *
  have H := Lib.hid h
  have HP := Lib.hid h.lt
  have HL := Lib.hid hl
  clear h hl hn0 hn1
  go_enter Tryd.func17, Tryd.ntmps17
  generalize hwa : w.alloc (.cells #[.int .i64 0, .slice none 0 0] 39) = wa at *
  have c0 := (H.out.on HB0.out).c0
  have f0 := (H.out.on HB0.out).fr 0
  have hsz : wa.heap.size = w.heap.size + 1 := by rw [← hwa]; simp
  have T0 : Hid (TInv w B p v t ts [] ts v (.slice none 0 0) (wa.setCell ⟨p, 0, none⟩ (.int .i64 t))) := Lib.hid ⟨rfl, (fun s hs => by cases hs), (H.out.on HB0.out).clock t, rfl, World.ownsRow_nil _ _ _ _, ((Off.set (fun k => k = p) wa ⟨p, 0, none⟩ (.int .i64 t) rfl).block _ (lt_heap HRB.out) (by have := HP.out; omega)).trans HRB.out, (Off.of_below _ HB0.out).trans (Off.set _ _ _ _ (.inl rfl))⟩
  go_wp2_with fail
  refine (HLT.out _).mono ?_
  rintro e w2 ⟨rfl, rfl⟩
  go_wp2
  clear c0 f0 hsz hwa
  generalize wa.setCell ⟨p, 0, none⟩ (.int .i64 t) = W0 at *
  generalize hr : w.heap.size = r at *
  have HR := Lib.hid hr
  clear hr
  go_loopg [6] ts.length (fun k s6 wr => ∃ dn rs v1, k = rs.length ∧ Hid (TInv w B p v t ts dn rs v1 s6 wr))
  case atStart => exact ⟨[], ts, v, rfl, T0⟩
  case round =>
    obtain ⟨dn, rs, v1, rfl, hinv⟩ := hrel
    have HI := hinv
    have HRL : Hid (rs.length ≤ 1000 ∧ dn.length ≤ 1000) := Lib.hid (by
      have h1 := HI.out.cut
      have h2 := HL.out
      rw [h1, List.length_append] at h2
      omega)
    have hout := HI.out.out
    obtain ⟨axo, cxo, rfl⟩ := row_slice hout
    have c0 := HI.out.wh.c0
    have c1 := HI.out.wh.c1
    obtain ⟨ao, cap, rfl, hc, hm, hcell⟩ := HI.out.wh.form
    clear hout hinv
    have HOW := Lib.hid HI.out.out
    generalize (dn.map (·.1)).length = nd at *
    cases rs with
    | nil =>
      clear hcell
      have HNX := Lib.hid fun (W : World) (hb : Below wr.heap.size wr W) => tinv_end (HI.out.on hb) (fun x l h => by cases h)
      simp only [List.length_nil] at c1 hc
      go_wp2_with fail
      go_quiet (fail)
      have HE := Lib.hid (HNX.out (wr.drewN nq) (below_drew wr nq))
      have hres := keep_on (below_drew wr nq) HI.out.res
      rw [HR.out] at HE hres
      clear c0 c1
      generalize wr.drewN nq = wq at *
      obtain ⟨r0, r1, g0, g1⟩ := cell2 hres
      obtain ⟨e0, e1⟩ := HE.out.2.2
      clear hres
      go_wp2
      refine bodyPost_ret (v := .tuple #[.slice axo nd cxo, .agg #[.int .i64 0, .slice none 0 0]]) ?_ rfl ⟨_, rfl, HE.out.1, HE.out.2.1⟩
      simp [results, Tryd.results17, go_sem, e0, e1]
    | cons x l =>
      obtain ⟨g, off, hg, p0, p1⟩ := hcell 0 (by simp)
      simp only [List.getElem_cons_zero, Nat.zero_mul, Nat.add_zero] at p0 p1
      subst hg
      clear hcell
      obtain ⟨x1, x2⟩ := x
      simp only at p0 p1
      have hpos : (0 : Int) < (((x1, x2) :: l).length : Int) := by simp
      have hposn : 0 < ((x1, x2) :: l).length := by simp
      by_cases hx : x2 ≤ t
      · obtain ⟨g', off', eg, hc1, _, hrw⟩ := HI.out.wh.own.tail
        simp only [Option.some.injEq, Addr.mk.injEq] at eg
        obtain ⟨rfl, rfl, _⟩ := eg
        have HTL : Hid (∀ W, RRow W B (.slice (some ⟨g, off, none⟩) ((x1, x2) :: l).length cap) ((x1, x2) :: l) → RRow W B (.slice (if cap = 1 then some ⟨g, off, none⟩ else some ⟨g, off + 2, none⟩) l.length (cap - 1)) l) := Lib.hid fun W hW => by
          obtain ⟨g', off', e, _, _, hr⟩ := hW.tail
          simp only [Option.some.injEq, Addr.mk.injEq] at e
          obtain ⟨rfl, rfl, _⟩ := e
          exact hr
        have HLL : Hid (((x1, x2) :: l).length = l.length + 1) := Lib.hid rfl
        obtain ⟨nl, hnl⟩ : ∃ nl, nl = ((x1, x2) :: l).length := ⟨_, rfl⟩
        have hnl1 : nl - 1 = l.length := by rw [hnl]; rfl
        have HNL := Lib.hid hnl
        rw [← hnl] at c1 hpos hposn hc
        have hcp1 : (1 : Int) ≤ (nl : Int) := by omega
        have hnl0 : (nl : Int) - 1 = (l.length : Int) := by omega
        clear hnl hrw
        go_wp2_with fail
        go_quiet (fail)
        have HQ := Lib.hid (HI.out.on (below_drew wr nq))
        have c1q : (wr.drewN nq).cell? ⟨p, 1, none⟩ = some (.slice (some ⟨g, off, none⟩) nl cap) := c1
        have p0q : (wr.drewN nq).cell? ⟨g, off, none⟩ = some (.int .i64 x1) := p0
        clear c0 c1 p0 p1
        generalize wr.drewN nq = wq at *
        obtain ⟨v6, w6, happ, ho6, hk6⟩ := app_ints (wq.alloc (.cells #[.int .i64 x1] 3)) w.heap.size (.slice axo nd cxo) _ (dn.map (·.1)) [x1] (HQ.out.out.alloc _) (own_lit wq x1) (by have := HQ.out.off.size; simp; omega) (by have := HRL.out; simp; omega)
        obtain ⟨av6, cv6, rfl⟩ := row_slice ho6
        by_cases hcp : cap = 1
        · have HT2 := HTL.out
          rw [if_pos hcp] at HT2
          obtain ⟨hw6, hti⟩ := tinv_next (v2 := .slice (some ⟨g, off, none⟩) l.length (cap - 1)) HQ.out hx ho6 hk6 HT2 rfl
          have HN := Lib.hid hti
          have s1 := hw6.c1
          have s2 := hw6.fr 1
          rw [← HNL.out] at s1
          clear hw6 hti ho6 hk6 HT2
          generalize (dn.map (·.1) ++ [x1]).length = nn at *
          subst hcp
          go_wp2_with (at_builtin; refine Lib.wpList_append_run _ rfl _ _ _ _ rfl _ _ rfl rfl _ _ happ ?_)
          go_roundg l.length
          case measure => simp
          case rel => exact ⟨dn ++ [(x1, x2)], l, _, rfl, HN⟩
        · have HT2 := HTL.out
          rw [if_neg hcp] at HT2
          obtain ⟨hw6, hti⟩ := tinv_next (v2 := .slice (some ⟨g, off + 2, none⟩) l.length (cap - 1)) HQ.out hx ho6 hk6 HT2 rfl
          have HN := Lib.hid hti
          have s1 := hw6.c1
          have s2 := hw6.fr 1
          rw [← HNL.out] at s1
          clear hw6 hti ho6 hk6 HT2
          generalize (dn.map (·.1) ++ [x1]).length = nn at *
          go_wp2_with (at_builtin; refine Lib.wpList_append_run _ rfl _ _ _ _ rfl _ _ rfl rfl _ _ happ ?_)
          go_roundg l.length
          case measure => simp
          case rel => exact ⟨dn ++ [(x1, x2)], l, _, rfl, HN⟩
      · have HNX := Lib.hid fun (W : World) (hb : Below wr.heap.size wr W) => tinv_end (HI.out.on hb) (fun y l' h => by
          simp only [List.cons.injEq] at h
          rw [← h.1]
          exact hx)
        generalize ((x1, x2) :: l).length = nl at *
        go_wp2_with fail
        go_quiet (fail)
        have HE := Lib.hid (HNX.out (wr.drewN nq) (below_drew wr nq))
        have hres := keep_on (below_drew wr nq) HI.out.res
        rw [HR.out] at HE hres
        clear c0 c1 p0 p1
        generalize wr.drewN nq = wq at *
        obtain ⟨r0, r1, g0, g1⟩ := cell2 hres
        obtain ⟨e0, e1⟩ := HE.out.2.2
        clear hres
        go_wp2
        refine bodyPost_ret (v := .tuple #[.slice axo nd cxo, .agg #[.int .i64 0, .slice none 0 0]]) ?_ rfl ⟨_, rfl, HE.out.1, HE.out.2.1⟩
        simp [results, Tryd.results17, go_sem, e0, e1]
end Go.Proofs.YtfefkkojdcipcaaDoor
