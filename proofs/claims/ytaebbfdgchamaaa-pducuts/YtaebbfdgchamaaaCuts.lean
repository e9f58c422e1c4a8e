/- yardlaw7.PduCuts answers true for every request, every reply, every place and every byte; memory that was there stands. -/
import Derived.Test.YtaebbfdgchamaaaOthers
import Derived.Deep.RegionHeld3
import Derived.Deep.QuietTactic
import Derived.BigQuiet
import Derived.Lib.AppendZeros
import Derived.Deep.RegionLaw
namespace Go.Proofs.Ytaebbfdgchamaaa
open Go.RowKit Go.Extern.Stop Go.Stop Go.Extern

/-- append of one byte to a row of one's own. -/
theorem app_byte (W : World) (B : Nat) (xo : Value) (os : List UInt8) (x : UInt8) (hown : W.ownsRow B 5 1 xo os.length (bcells os)) (hB : B ≤ W.heap.size) (hl : os.length ≤ 1000000) :
    ∃ v' w', (Builtin.append_ #[25, 25] 25 #[xo, .slice (some ⟨W.heap.size, 0, none⟩) 1 1]).run Try.prog (W.alloc (.cells #[.int .u8 (x.toNat : Int)] 5)) = .ok v' w' ∧ w'.ownsRow B 5 1 v' (os ++ [x]).length (bcells (os ++ [x])) ∧ Off (fun k => xo.ownBlock = some k) W w' := by
  obtain ⟨i0, hi0, hz0, hz1, hz2⟩ := info_parts info5
  have hb1 : Below W.heap.size W (W.alloc (.cells #[.int .u8 (x.toNat : Int)] 5)) := below_new _ _
  have hown1 := ownsRow_off hown (Off.of_below (fun _ => False) hb1) (fun _ _ f => f)
  obtain ⟨v', w', h1, h2, h3, _⟩ := run_append_own_at (P := Try.prog) (W.alloc (.cells #[.int .u8 (x.toNat : Int)] 5)) B 25 25 5 i0 (.int .u8 0) 1 1 Try.underlying25 hi0 hz0 hz1 hz2 rfl (by omega) xo os.length (bcells os) hown1 ⟨W.heap.size, 0, none⟩ 1 1 [.int .u8 (x.toNat : Int)] rfl (World.news_of_block (cs := #[.int .u8 (x.toNat : Int)]) (heap_alloc_new W _)) (by intro u hu; simp only [List.mem_singleton] at hu; subst hu; rfl) (by unfold maxLen; omega) (by omega) (Nat.le_trans hB hb1.size)
  exact ⟨v', w', h1, by rw [List.length_append, show bcells (os ++ [x]) = bcells os ++ [.int .u8 (x.toNat : Int)] by simp [bcells]]; exact h2, (Off.of_below _ hb1).trans (Off.of_grown h3)⟩
theorem some_of {w : World} {a : Option Addr} {n c : Nat} {l : List UInt8} (h : BytesAt w (.slice a n c) l) (hl : 0 < l.length) : ∃ b off, a = some ⟨b, off, none⟩ := by
  obtain ⟨ao, cap, e, hc⟩ := h
  simp only [Value.slice.injEq] at e
  obtain ⟨rfl, _, _⟩ := e
  obtain ⟨b, off, h1, _⟩ := hc 0 hl
  exact ⟨b, off, h1⟩
theorem bytes_take {w : World} {b off n c m k : Nat} {l : List UInt8} (h : BytesAt w (.slice (some ⟨b, off, none⟩) n c) l) (hm : m ≤ l.length) : BytesAt w (.slice (some ⟨b, off, none⟩) m k) (l.take m) := by
  obtain ⟨ao, cap, e, hc⟩ := h
  simp only [Value.slice.injEq] at e
  obtain ⟨rfl, _, _⟩ := e
  refine ⟨some ⟨b, off, none⟩, k, by rw [List.length_take, Nat.min_eq_left hm], fun i hi => ?_⟩
  rw [List.length_take] at hi
  obtain ⟨b', off', e', h'⟩ := hc i (by omega)
  refine ⟨b', off', e', ?_⟩
  rw [List.getElem_take]
  exact h'
theorem bel {w8 X : World} (h : Below w8.heap.size w8 X) (o : Obj) : Below w8.heap.size w8 (X.alloc o) := h.alloc h.size _
theorem bel_call {w8 X Y : World} (h : Below w8.heap.size w8 X) (hb : Below X.heap.size X Y) : Below w8.heap.size w8 Y := h.trans (hb.mono h.size)
theorem keepblk {w : World} {b : Nat} {o : Obj} (h : w.heap[b]? = some o) (o' : Obj) : (w.alloc o').heap[b]? = some o := ((below_new w o').block b (lt_heap h)).trans h
theorem keepcall {w w' : World} {b : Nat} {o : Obj} (hb : Below w.heap.size w w') (h : w.heap[b]? = some o) : w'.heap[b]? = some o := (hb.block b (lt_heap h)).trans h
theorem own_al {w : World} {B n : Nat} {v : Value} {xs : List Value} (h : w.ownsRow B 5 1 v n xs) (o : Obj) : (w.alloc o).ownsRow B 5 1 v n xs := ownsRow_off h (Off.of_below (fun _ => False) (below_new w o)) (fun _ _ f => f)
theorem keepapp {w w' : World} {B n b : Nat} {v : Value} {xs : List Value} {cs : Array Value} (hk : Off (fun k => v.ownBlock = some k) w w') (hown : w.ownsRow B 5 1 v n xs) (h : w.heap[b]? = some (.cells cs 38 (0, 0))) : w'.heap[b]? = some (.cells cs 38 (0, 0)) := by
  refine (hk.block b (lt_heap h) (fun e => ?_)).trans h
  obtain ⟨cur, hc⟩ := row_type hown e
  rw [h] at hc
  simp at hc
theorem step_append_run {P : Program} {ops : Array Oper} {o : Oper} {a : Act} {w : World} {K : Act → World → Prop} {Q : Exit → Act → World → Prop} {E : Prop}
    (hg : o.guard = none) (d x : Operand) (dT sT : TypeId) (hop : o.op = Op.call { callee := Callee.builtin Builtin.append, args := #[d, x], argTypes := #[dT, sT] })
    (v u : Value) (hd : a.eval d = v) (hx : a.eval x = u) {v' : Value} {w' : World} (hr : (Builtin.append_ #[dT, sT] o.type #[v, u]).run P w = .ok v' w') (hK : K (a.put o.dst v') w') :
    if Region.wanted o (yielded ops a.tmps) = true then Oper.wp P o a w K Q else E := by
  have hw : Region.wanted o (yielded ops a.tmps) = true := by simp [Region.wanted, hg]
  rw [if_pos hw]
  unfold Oper.wp
  simp [execOp, hop, resolve, invoke, builtin, hd, hx, hr, Result.andThen]
  exact hK
theorem step_app_byte {ops : Array Oper} {o : Oper} {a : Act} {w : World} {K : Act → World → Prop} {Q : Exit → Act → World → Prop} {E : Prop}
    (hg : o.guard = none) (d x : Operand) (hop : o.op = Op.call { callee := Callee.builtin Builtin.append, args := #[d, x], argTypes := #[25, 25] }) (hty : o.type = 25)
    (B : Nat) (os : List UInt8) (m : UInt8) (v : Value) (b : Nat) (hd : a.eval d = v) (hx : a.eval x = .slice (some ⟨b, 0, none⟩) 1 1) (hown : w.ownsRow B 5 1 v os.length (bcells os)) (hlit : w.heap[b]? = some (.cells #[.int .u8 (m.toNat : Int)] 5 (0, 0))) (hB : B ≤ w.heap.size) (hl : os.length ≤ 1000000)
    (hK : ∀ v' w', w'.ownsRow B 5 1 v' (os ++ [m]).length (bcells (os ++ [m])) → Off (fun k => v.ownBlock = some k) w w' → K (a.put o.dst v') w') :
    if Region.wanted o (yielded ops a.tmps) = true then Oper.wp Try.prog o a w K Q else E := by
  obtain ⟨i0, hi0, hz0, hz1, hz2⟩ := info_parts info5
  obtain ⟨v', w', h1, h2, h3, _⟩ := run_append_own_at (P := Try.prog) w B 25 25 5 i0 (.int .u8 0) 1 1 Try.underlying25 hi0 hz0 hz1 hz2 rfl (by omega) v os.length (bcells os) hown ⟨b, 0, none⟩ 1 1 [.int .u8 (m.toNat : Int)] rfl (World.news_of_block (cs := #[.int .u8 (m.toNat : Int)]) hlit) (by intro u hu; simp only [List.mem_singleton] at hu; subst hu; rfl) (by unfold maxLen; omega) (by omega) hB
  refine step_append_run hg d x 25 25 hop v _ hd hx (v' := v') (w' := w') (by rw [hty]; exact h1) (hK v' w' ?_ (Off.of_grown h3))
  rw [List.length_append, show bcells (os ++ [m]) = bcells os ++ [.int .u8 (m.toNat : Int)] by simp [bcells]]
  exact h2
theorem keepnew (w : World) (o o' : Obj) : ((w.alloc o).alloc o').heap[w.heap.size + 1]? = some o' := by
  have h := heap_alloc_new (w.alloc o) o'
  simpa using h
theorem bytesAt_own' {w : World} {base n : Nat} {v : Value} {l : List UInt8} (h : w.ownsRow base 5 1 v n (bcells l)) (hn : l.length = n) : BytesAt w v l := by
  subst hn
  exact bytesAt_own h

set_option maxRecDepth 100000 in
set_option maxHeartbeats 40000000 in
theorem cuts_any (r : Rq) (p : Rp) (v pv : Value) (cut : Int) (more : UInt8) (w : World) (hv : IntsAt w v r.vs) (hp : IntsAt w pv p.vs) : Calls Try.prog 6 #[r.val v, p.val pv, .int .i64 cut, .int .u8 (more.toNat : Int)] w (Holds w) := by
  obtain ⟨f, s, c, vs⟩ := r
  obtain ⟨code, ps⟩ := p
  unfold Rq.val Rp.val
  dsimp only at hv hp ⊢
  have HV := Lib.hid hv
  have HP := Lib.hid hp
  obtain ⟨av, kv, rfl, _⟩ := id hv
  obtain ⟨ap, kp, rfl, _⟩ := id hp
  clear hv hp
  obtain ⟨wx, hwx⟩ : ∃ wx, wx = (w.alloc (.cells #[.int .i64 f, .int .i64 s, .int .i64 c, .slice av vs.length kv] 24)).alloc (.cells #[.int .i64 code, .slice ap ps.length kp] 38) := ⟨_, rfl⟩
  have T0 : Hid (Two w wx f s c (.slice av vs.length kv) code (.slice ap ps.length kp)) := Lib.hid (by rw [hwx]; exact two_new _ _ _ _ _ _ _)
  go_enter Try.func6, Try.ntmps6
  go_wp2_with fail
  rw [← hwx]
  clear hwx
  refine (first_any wx).mono ?_
  rintro e w1 ⟨rfl, hb⟩
  have T1 := Lib.hid (T0.out.on hb)
  clear hb
  obtain ⟨c0, c1, c2, c3⟩ := cells4 T1.out.2.1
  obtain ⟨p0, p1⟩ := T1.out.2.2.cells
  have quit : ∀ (W : World), Below w.heap.size w W → Hid (Calls Try.prog 11 #[] W (Holds w)) := fun W h => Lib.hid ((first_any W).mono fun e w' h' => ⟨h'.1, h.trans (h'.2.mono h.size)⟩)
  by_cases h1 : (3000 : Int) < (vs.length : Int)
  · go_wp2_with fail
    refine (quit _ T1.out.1).out.mono ?_
    rintro e wq ⟨rfl, hb⟩
    have HB := Lib.hid hb
    clear hb
    go_wp2
    go_ret
    exact ⟨rfl, HB.out⟩
  by_cases h2 : (3000 : Int) < (ps.length : Int)
  · go_wp2_with fail
    refine (quit _ T1.out.1).out.mono ?_
    rintro e wq ⟨rfl, hb⟩
    have HB := Lib.hid hb
    clear hb
    go_wp2
    go_ret
    exact ⟨rfl, HB.out⟩
  have HL : Hid (vs.length ≤ 100000 ∧ ps.length ≤ 100000) := Lib.hid (by omega)
  go_wp2_with fail
  clear p0 p1
  rcases Int.lt_or_le cut 0 with hcut | hcut
  · rcases Bool.eq_false_or_eq_true (Rq.may ⟨f, s, c, vs⟩) with hm | hm
    · have HM := Lib.hid hm
      have HLE := Lib.hid (encF_length hm)
      have HDC := Lib.hid (dec_cut hm)
      have HDM := Lib.hid (dec_more hm more)
      clear hm
      refine (enc_ok ⟨f, s, c, vs⟩ _ w1 (HV.out.on T1.out.1) HM.out HL.out.1).mono ?_
      intro e w2 h
      obtain ⟨a2, k2, rfl, hx, hk, hb⟩ := h.form
      have T2 := Lib.hid (T1.out.on hb)
      have X2 := Lib.hid hx
      generalize encF ⟨f, s, c, vs⟩ = x at *
      have hx5 : (5 : Int) ≤ (x.length : Int) := by have := HLE.out.1; omega
      have hxk : (x.length : Int) ≤ (k2 : Int) := by omega
      obtain ⟨g2, o2, rfl⟩ := some_of X2.out (by have := HLE.out.1; omega)
      clear h hx hb hk c0 c1 c2 c3
      obtain ⟨c0, c1, c2, c3⟩ := cells4 T2.out.2.1
      obtain ⟨p0, p1⟩ := T2.out.2.2.cells
      go_wp2_with fail
      clear p0 p1
      rcases Bool.eq_false_or_eq_true (Rq.may ⟨f, s, c, vs⟩ && mayR ⟨f, s, c, vs⟩ ⟨code, ps⟩) with hmr | hmr
      · have HMR := Lib.hid (by rwa [Bool.and_eq_true] at hmr : Rq.may ⟨f, s, c, vs⟩ = true ∧ mayR ⟨f, s, c, vs⟩ ⟨code, ps⟩ = true)
        have HLA := Lib.hid (ansF_length HMR.out.1 HMR.out.2)
        have HRC := Lib.hid (read_cut HMR.out.1 HMR.out.2)
        have HRM := Lib.hid (read_more HMR.out.1 HMR.out.2 more)
        clear hmr
        refine (ans_ok ⟨f, s, c, vs⟩ ⟨code, ps⟩ _ _ _ (HV.out.on T2.out.1) (HP.out.on T2.out.1) HMR.out.1 HMR.out.2 HL.out.1 HL.out.2).mono ?_
        intro e w8 h
        obtain ⟨a8, k8, rfl, hx, hk, hb⟩ := h.form
        have T8 := Lib.hid (T2.out.on hb)
        have X8 := Lib.hid hx
        generalize ansF ⟨f, s, c, vs⟩ ⟨code, ps⟩ = y at *
        have hy5 : (2 : Int) ≤ (y.length : Int) := by have := HLA.out.1; omega
        have hyk : (y.length : Int) ≤ (k8 : Int) := by omega
        obtain ⟨g8, o8, rfl⟩ := some_of X8.out (by have := HLA.out.1; omega)
        clear h hx hb hk c0 c1 c2 c3
        go_wp2_with fail
        refine (quit _ T8.out.1).out.mono ?_
        rintro e wq ⟨rfl, hb⟩
        have HB := Lib.hid hb
        clear hb
        go_wp2
        go_ret
        exact ⟨rfl, HB.out⟩
      · have HMR := Lib.hid hmr
        clear hmr
        refine (ans_no ⟨f, s, c, vs⟩ ⟨code, ps⟩ _ _ _ (HV.out.on T2.out.1) (HP.out.on T2.out.1) HMR.out HL.out.1 HL.out.2).mono ?_
        intro e w8 h
        obtain ⟨b8, rfl, hb⟩ := h.form
        have T8 := Lib.hid (T2.out.on hb)
        clear h hb c0 c1 c2 c3
        go_wp2_with fail
        refine (quit _ T8.out.1).out.mono ?_
        rintro e wq ⟨rfl, hb⟩
        have HB := Lib.hid hb
        clear hb
        go_wp2
        go_ret
        exact ⟨rfl, HB.out⟩
    · have HM := Lib.hid hm
      clear hm
      refine (enc_no ⟨f, s, c, vs⟩ _ w1 (HV.out.on T1.out.1) HM.out HL.out.1).mono ?_
      intro e w2 h
      obtain ⟨b2, rfl, hb⟩ := h.form
      have T2 := Lib.hid (T1.out.on hb)
      clear h hb c0 c1 c2 c3
      obtain ⟨c0, c1, c2, c3⟩ := cells4 T2.out.2.1
      obtain ⟨p0, p1⟩ := T2.out.2.2.cells
      go_wp2_with fail
      clear p0 p1
      rcases Bool.eq_false_or_eq_true (Rq.may ⟨f, s, c, vs⟩ && mayR ⟨f, s, c, vs⟩ ⟨code, ps⟩) with hmr | hmr
      · have HMR := Lib.hid (by rwa [Bool.and_eq_true] at hmr : Rq.may ⟨f, s, c, vs⟩ = true ∧ mayR ⟨f, s, c, vs⟩ ⟨code, ps⟩ = true)
        have HLA := Lib.hid (ansF_length HMR.out.1 HMR.out.2)
        have HRC := Lib.hid (read_cut HMR.out.1 HMR.out.2)
        have HRM := Lib.hid (read_more HMR.out.1 HMR.out.2 more)
        clear hmr
        refine (ans_ok ⟨f, s, c, vs⟩ ⟨code, ps⟩ _ _ _ (HV.out.on T2.out.1) (HP.out.on T2.out.1) HMR.out.1 HMR.out.2 HL.out.1 HL.out.2).mono ?_
        intro e w8 h
        obtain ⟨a8, k8, rfl, hx, hk, hb⟩ := h.form
        have T8 := Lib.hid (T2.out.on hb)
        have X8 := Lib.hid hx
        generalize ansF ⟨f, s, c, vs⟩ ⟨code, ps⟩ = y at *
        have hy5 : (2 : Int) ≤ (y.length : Int) := by have := HLA.out.1; omega
        have hyk : (y.length : Int) ≤ (k8 : Int) := by omega
        obtain ⟨g8, o8, rfl⟩ := some_of X8.out (by have := HLA.out.1; omega)
        clear h hx hb hk c0 c1 c2 c3
        go_wp2_with fail
        refine (quit _ T8.out.1).out.mono ?_
        rintro e wq ⟨rfl, hb⟩
        have HB := Lib.hid hb
        clear hb
        go_wp2
        go_ret
        exact ⟨rfl, HB.out⟩
      · have HMR := Lib.hid hmr
        clear hmr
        refine (ans_no ⟨f, s, c, vs⟩ ⟨code, ps⟩ _ _ _ (HV.out.on T2.out.1) (HP.out.on T2.out.1) HMR.out HL.out.1 HL.out.2).mono ?_
        intro e w8 h
        obtain ⟨b8, rfl, hb⟩ := h.form
        have T8 := Lib.hid (T2.out.on hb)
        clear h hb c0 c1 c2 c3
        go_wp2_with fail
        refine (quit _ T8.out.1).out.mono ?_
        rintro e wq ⟨rfl, hb⟩
        have HB := Lib.hid hb
        clear hb
        go_wp2
        go_ret
        exact ⟨rfl, HB.out⟩
  · obtain ⟨n, rfl⟩ := Int.eq_ofNat_of_zero_le hcut
    rcases Bool.eq_false_or_eq_true (Rq.may ⟨f, s, c, vs⟩) with hm | hm
    · have HM := Lib.hid hm
      have HLE := Lib.hid (encF_length hm)
      have HDC := Lib.hid (dec_cut hm)
      have HDM := Lib.hid (dec_more hm more)
      clear hm
      refine (enc_ok ⟨f, s, c, vs⟩ _ w1 (HV.out.on T1.out.1) HM.out HL.out.1).mono ?_
      intro e w2 h
      obtain ⟨a2, k2, rfl, hx, hk, hb⟩ := h.form
      have T2 := Lib.hid (T1.out.on hb)
      have X2 := Lib.hid hx
      generalize encF ⟨f, s, c, vs⟩ = x at *
      have hx5 : (5 : Int) ≤ (x.length : Int) := by have := HLE.out.1; omega
      have hxk : (x.length : Int) ≤ (k2 : Int) := by omega
      obtain ⟨g2, o2, rfl⟩ := some_of X2.out (by have := HLE.out.1; omega)
      clear h hx hb hk c0 c1 c2 c3
      by_cases hcx : (n : Int) < (x.length : Int)
      · have hnk : n ≤ k2 := by omega
        have HNX : Hid (n < x.length) := Lib.hid (by omega)
        go_wp2_with fail
        refine (dec_no _ (x.take n) w2 (bytes_take X2.out (Nat.le_of_lt HNX.out)) (by rw [List.length_take]; have := HLE.out; omega) (HDC.out n HNX.out)).mono ?_
        intro e w3 h
        obtain ⟨b3, rfl, hb⟩ := h.form
        have T3 := Lib.hid (T2.out.on hb)
        have X3 := Lib.hid (X2.out.on hb)
        clear h hb
        unfold Rq.zero
        have T3b : Hid (Two w (w3.alloc (.cells #[.int .i64 0, .int .i64 0, .int .i64 0, .slice none 0 0] 24)) f s c (.slice av vs.length kv) code (.slice ap ps.length kp)) := Lib.hid (T3.out.on (below_new _ _))
        go_wp2_with fail
        refine (copy_any _ x _ (X3.out.on (below_new _ _)) (by have := HLE.out; omega)).mono ?_
        rintro e w4 ⟨v4, rfl, ho, hb⟩
        have T4 := Lib.hid (T3b.out.on hb)
        obtain ⟨v5, w5, happ, ho5, hk5⟩ := app_byte w4 _ v4 x more ho hb.size (by have := HLE.out; omega)
        obtain ⟨a4, k4, rfl⟩ := row_slice ho
        obtain ⟨a5, k5, rfl⟩ := row_slice ho5
        have X5 := Lib.hid (bytesAt_own ho5)
        have T5 := Lib.hid (T3b.out.on (hb.trans (hk5.below hb.size (fun k hk => (ho.lt k hk).1))))
        have HXL : Hid ((x ++ [more]).length = x.length + 1) := Lib.hid (by simp)
        clear ho ho5 hk5 hb
        generalize hz : x ++ [more] = xm at *
        clear hz
        generalize hzl : xm.length = xl at *
        go_wp2_with (at_builtin; refine Lib.wpList_append_run _ rfl _ _ _ _ rfl _ _ rfl rfl _ _ happ ?_)
        refine (dec_no _ xm w5 X5.out (by rw [hzl]; have := HXL.out; have := HLE.out; omega) HDM.out).mono ?_
        intro e w6 h
        obtain ⟨b6, rfl, hb⟩ := h.form
        have T6 := Lib.hid (T5.out.on hb)
        clear h hb
        unfold Rq.zero
        have T7 : Hid (Two w (w6.alloc (.cells #[.int .i64 0, .int .i64 0, .int .i64 0, .slice none 0 0] 24)) f s c (.slice av vs.length kv) code (.slice ap ps.length kp)) := Lib.hid (T6.out.on (below_new _ _))
        clear happ hzl
        obtain ⟨c0, c1, c2, c3⟩ := cells4 T7.out.2.1
        obtain ⟨p0, p1⟩ := T7.out.2.2.cells
        go_wp2_with fail
        clear p0 p1
        rcases Bool.eq_false_or_eq_true (Rq.may ⟨f, s, c, vs⟩ && mayR ⟨f, s, c, vs⟩ ⟨code, ps⟩) with hmr | hmr
        · have HMR := Lib.hid (by rwa [Bool.and_eq_true] at hmr : Rq.may ⟨f, s, c, vs⟩ = true ∧ mayR ⟨f, s, c, vs⟩ ⟨code, ps⟩ = true)
          have HLA := Lib.hid (ansF_length HMR.out.1 HMR.out.2)
          have HRC := Lib.hid (read_cut HMR.out.1 HMR.out.2)
          have HRM := Lib.hid (read_more HMR.out.1 HMR.out.2 more)
          clear hmr
          refine (ans_ok ⟨f, s, c, vs⟩ ⟨code, ps⟩ _ _ _ (HV.out.on T7.out.1) (HP.out.on T7.out.1) HMR.out.1 HMR.out.2 HL.out.1 HL.out.2).mono ?_
          intro e w8 h
          obtain ⟨a8, k8, rfl, hx, hk, hb⟩ := h.form
          have T8 := Lib.hid (T7.out.on hb)
          have X8 := Lib.hid hx
          generalize ansF ⟨f, s, c, vs⟩ ⟨code, ps⟩ = y at *
          have hy5 : (2 : Int) ≤ (y.length : Int) := by have := HLA.out.1; omega
          have hyk : (y.length : Int) ≤ (k8 : Int) := by omega
          obtain ⟨g8, o8, rfl⟩ := some_of X8.out (by have := HLA.out.1; omega)
          clear h hx hb hk c0 c1 c2 c3
          by_cases hcy : (n : Int) < (y.length : Int)
          · have hny : n ≤ k8 := by omega
            have HNY : Hid (n < y.length) := Lib.hid (by omega)
            obtain ⟨c0, c1, c2, c3⟩ := cells4 T8.out.2.1
            have HLT : Hid ((y.take n).length ≤ 100000) := Lib.hid (by rw [List.length_take]; have := HLA.out; omega)
            have HRCx : Hid ((Rq.may ⟨f, s, c, vs⟩ && readB ⟨f, s, c, vs⟩ (y.take n)) = false) := Lib.hid (by rw [HMR.out.1, Bool.true_and]; exact HRC.out n HNY.out)
            have BD : Hid (Below w8.heap.size w8 w8.drew) := Lib.hid (Below.refl _ _).drew
            have TD := Lib.hid (T8.out.on BD.out)
            have XD := Lib.hid (X8.out.on BD.out)
            have TA : Hid (Two w (w8.drew.alloc (.cells #[.int .i64 0, .slice none 0 0] 38)) f s c (.slice av vs.length kv) code (.slice ap ps.length kp)) := Lib.hid (TD.out.on (below_new _ _))
            have XA := Lib.hid (XD.out.on (below_new w8.drew (.cells #[.int .i64 0, .slice none 0 0] 38)))
            clear c0 c1 c2 c3
            obtain ⟨c0, c1, c2, c3⟩ := cells4 TD.out.2.1
            obtain ⟨d0, d1, d2, d3⟩ := cells4 TA.out.2.1
            go_wp2_with fail
            go_region_held3 (fun w' => w'.cell? ⟨w.heap.size, 0, none⟩ = some (.int .i64 f) ∧ w'.cell? ⟨w.heap.size, 1, none⟩ = some (.int .i64 s) ∧ w'.cell? ⟨w.heap.size, 2, none⟩ = some (.int .i64 c) ∧ w'.cell? ⟨w.heap.size, 3, none⟩ = some (.slice av vs.length kv))
              (first
                | exact ⟨c0, c1, c2, c3⟩
                | exact ⟨d0, d1, d2, d3⟩
                | exact ⟨e0, e1, e2, e3⟩
                | exact ⟨h0', h1', h2', h3'⟩
                | exact ⟨i0, i1, i2, i3⟩
                | go_keep)
              ((go_at_call 18; first | (refine (read_no ⟨f, s, c, vs⟩ _ _ (y.take n) w8.drew (HV.out.on TD.out.1) (bytes_take XD.out (Nat.le_of_lt HNY.out)) HL.out.1 HLT.out HRCx.out).mono ?_; intro e w9 h; obtain ⟨b9, rfl, hb9⟩ := h.form; have BW : Hid (Below w8.heap.size w8 w9) := Lib.hid (bel_call BD.out hb9); obtain ⟨e0, e1, e2, e3⟩ := cells4 (T8.out.on BW.out).2.1; obtain ⟨h0', h1', h2', h3'⟩ := cells4 (T8.out.on ((BW.out.setCell (p := ⟨w8.heap.size, 0, none⟩) (Nat.le_refl _) (.int .i64 0)).setCell (p := ⟨w8.heap.size, 1, none⟩) (Nat.le_refl _) (.slice none 0 0))).2.1; obtain ⟨i0, i1, i2, i3⟩ := cells4 (T8.out.on (BW.out.alloc BW.out.size (.cells #[.int .i64 0, .slice none 0 0] 38))).2.1; clear h hb9; unfold Rp.zero; simp only []) | (refine (read_no ⟨f, s, c, vs⟩ _ _ (y.take n) (w8.drew.alloc (.cells #[.int .i64 0, .slice none 0 0] 38)) (HV.out.on TA.out.1) (bytes_take XA.out (Nat.le_of_lt HNY.out)) HL.out.1 HLT.out HRCx.out).mono ?_; intro e w9 h; obtain ⟨b9, rfl, hb9⟩ := h.form; have BW : Hid (Below w8.heap.size w8 w9) := Lib.hid (bel_call (bel BD.out (.cells #[.int .i64 0, .slice none 0 0] 38)) hb9); obtain ⟨e0, e1, e2, e3⟩ := cells4 (T8.out.on BW.out).2.1; obtain ⟨h0', h1', h2', h3'⟩ := cells4 (T8.out.on ((BW.out.setCell (p := ⟨w8.heap.size, 0, none⟩) (Nat.le_refl _) (.int .i64 0)).setCell (p := ⟨w8.heap.size, 1, none⟩) (Nat.le_refl _) (.slice none 0 0))).2.1; obtain ⟨i0, i1, i2, i3⟩ := cells4 (T8.out.on (BW.out.alloc BW.out.size (.cells #[.int .i64 0, .slice none 0 0] 38))).2.1; have q9 : BoxP w9 w8.heap.size 0 (.slice none 0 0) := keepcall hb9 (heap_alloc_new w8.drew _); have q9f : ∀ o, w9.frozen? ⟨w8.heap.size, o, none⟩ = false := fun o => frozen_of_row _ _ _ _ _ q9; have m0 := q9f 0; have m1 := q9f 1; obtain ⟨k0, k1⟩ := q9.cells; clear q9 q9f; clear h hb9; unfold Rp.zero; simp only [])))
            all_goals
              first
                | (obtain ⟨W, hW⟩ : ∃ W, W = w9.alloc (.cells #[.int .i64 0, .slice none 0 0] 38) := ⟨_, rfl⟩
                   have BZ : Hid (Below w8.heap.size w8 W) := Lib.hid (by rw [hW]; exact BW.out.alloc BW.out.size _)
                   rw [← hW]
                   clear hW)
                | (obtain ⟨W, hW⟩ : ∃ W, W = (w9.setCell ⟨w8.heap.size, 0, none⟩ (.int .i64 0)).setCell ⟨w8.heap.size, 1, none⟩ (.slice none 0 0) := ⟨_, rfl⟩
                   have BZ : Hid (Below w8.heap.size w8 W) := Lib.hid (by rw [hW]; exact (BW.out.setCell (p := ⟨w8.heap.size, 0, none⟩) (Nat.le_refl _) (.int .i64 0)).setCell (p := ⟨w8.heap.size, 1, none⟩) (Nat.le_refl _) (.slice none 0 0))
                   rw [← hW]
                   clear hW)
              clear c0 c1 c2 c3 d0 d1 d2 d3 e0 e1 e2 e3 h0' h1' h2' h3' i0 i1 i2 i3
              try clear m0 m1 k0 k1
              have HLY : Hid (y.length ≤ 1000000) := Lib.hid (by have := HLA.out; omega)
              obtain ⟨yl, hyl⟩ : ∃ n, (y ++ [more]).length = n := ⟨_, rfl⟩
              have HYL := Lib.hid hyl
              clear hyl
              have HLYc : Hid (y.length ≤ 140737488355328) := Lib.hid (by have := HLA.out; omega)
              have HLYr : Hid ((y ++ [more]).length ≤ 100000) := Lib.hid (by rw [List.length_append]; have := HLA.out; show y.length + 1 ≤ 100000; omega)
              have HMRx : Hid ((Rq.may ⟨f, s, c, vs⟩ && readB ⟨f, s, c, vs⟩ (y ++ [more])) = false) := Lib.hid (by rw [HMR.out.1, Bool.true_and]; exact HRM.out)
              have BZD : Hid (Below w8.heap.size w8 W.drew) := Lib.hid BZ.out.drew
              obtain ⟨c0, c1, c2, c3⟩ := cells4 (T8.out.on BZD.out).2.1
              go_wp2_with fail
              go_region_held3 (fun w' => w'.cell? ⟨w.heap.size, 0, none⟩ = some (.int .i64 f) ∧ w'.cell? ⟨w.heap.size, 1, none⟩ = some (.int .i64 s) ∧ w'.cell? ⟨w.heap.size, 2, none⟩ = some (.int .i64 c) ∧ w'.cell? ⟨w.heap.size, 3, none⟩ = some (.slice av vs.length kv))
                (first
                  | exact ⟨c0, c1, c2, c3⟩
                  | exact ⟨d0, d1, d2, d3⟩
                  | exact ⟨e0, e1, e2, e3⟩
                  | exact ⟨h0', h1', h2', h3'⟩
                  | exact ⟨i0, i1, i2, i3⟩
                  | exact ⟨j0, j1, j2, j3⟩
                  | (refine cells4 (T8.out.on ?_).2.1; (repeat (first | exact BZD.out | exact C10.out | exact C11.out | refine bel ?_ _)); done)
                  | (refine cells4 (T8.out.on ?_).2.1; (repeat (first | exact BZD.out | exact C10.out | exact C11.out | exact BZ.out | refine bel ?_ _ | refine Below.drew ?_)); done)
                  | exact cells4 (T8.out.on (bel BZD.out (.cells #[.int .u8 (more.toNat : Int)] 5))).2.1
                  | exact cells4 (T8.out.on (bel (bel BZD.out (.cells #[.int .u8 (more.toNat : Int)] 5)) (.cells #[.int .i64 0, .slice none 0 0] 38))).2.1
                  | exact cells4 (T8.out.on (bel (bel BZD.out (.cells #[.int .i64 0, .slice none 0 0] 38)) (.cells #[.int .u8 (more.toNat : Int)] 5))).2.1
                  | go_keep)
                (first
                  | (go_at_call 20; first | (refine (copy_any _ y W.drew (X8.out.on BZD.out) HLYc.out).mono ?_; rintro e w10 ⟨v10, rfl, ho10, hb10⟩; have C10 : Hid (Below w8.heap.size w8 w10) := Lib.hid (bel_call BZD.out hb10); have O10 : Hid (w10.ownsRow w8.heap.size 5 1 v10 y.length (bcells y)) := Lib.hid (ownsRow_base ho10 BZD.out.size); obtain ⟨a10, k10, rfl⟩ := row_slice ho10; obtain ⟨d0, d1, d2, d3⟩ := cells4 (T8.out.on C10.out).2.1; clear ho10 hb10; simp only []) | (refine (copy_any _ y (W.drew.alloc (.cells #[.int .u8 (more.toNat : Int)] 5)) (X8.out.on (bel BZD.out (.cells #[.int .u8 (more.toNat : Int)] 5))) HLYc.out).mono ?_; rintro e w10 ⟨v10, rfl, ho10, hb10⟩; have C10 : Hid (Below w8.heap.size w8 w10) := Lib.hid (bel_call (bel BZD.out (.cells #[.int .u8 (more.toNat : Int)] 5)) hb10); have O10 : Hid (w10.ownsRow w8.heap.size 5 1 v10 y.length (bcells y)) := Lib.hid (ownsRow_base ho10 (bel BZD.out (.cells #[.int .u8 (more.toNat : Int)] 5)).size); obtain ⟨a10, k10, rfl⟩ := row_slice ho10; have L10a : w10.heap[W.heap.size]? = some (.cells #[.int .u8 (more.toNat : Int)] 5 (0, 0)) := keepcall hb10 (heap_alloc_new W.drew _); obtain ⟨d0, d1, d2, d3⟩ := cells4 (T8.out.on C10.out).2.1; clear ho10 hb10; simp only []) | (refine (copy_any _ y (W.drew.alloc (.cells #[.int .i64 0, .slice none 0 0] 38)) (X8.out.on (bel BZD.out (.cells #[.int .i64 0, .slice none 0 0] 38))) HLYc.out).mono ?_; rintro e w10 ⟨v10, rfl, ho10, hb10⟩; have C10 : Hid (Below w8.heap.size w8 w10) := Lib.hid (bel_call (bel BZD.out (.cells #[.int .i64 0, .slice none 0 0] 38)) hb10); have O10 : Hid (w10.ownsRow w8.heap.size 5 1 v10 y.length (bcells y)) := Lib.hid (ownsRow_base ho10 (bel BZD.out (.cells #[.int .i64 0, .slice none 0 0] 38)).size); obtain ⟨a10, k10, rfl⟩ := row_slice ho10; have K10a : w10.heap[W.heap.size]? = some (.cells #[.int .i64 0, .slice none 0 0] 38 (0, 0)) := keepcall hb10 (heap_alloc_new W.drew _); obtain ⟨d0, d1, d2, d3⟩ := cells4 (T8.out.on C10.out).2.1; clear ho10 hb10; simp only []) | (refine (copy_any _ y ((W.drew.alloc (.cells #[.int .u8 (more.toNat : Int)] 5)).alloc (.cells #[.int .i64 0, .slice none 0 0] 38)) (X8.out.on (bel (bel BZD.out (.cells #[.int .u8 (more.toNat : Int)] 5)) (.cells #[.int .i64 0, .slice none 0 0] 38))) HLYc.out).mono ?_; rintro e w10 ⟨v10, rfl, ho10, hb10⟩; have C10 : Hid (Below w8.heap.size w8 w10) := Lib.hid (bel_call (bel (bel BZD.out (.cells #[.int .u8 (more.toNat : Int)] 5)) (.cells #[.int .i64 0, .slice none 0 0] 38)) hb10); have O10 : Hid (w10.ownsRow w8.heap.size 5 1 v10 y.length (bcells y)) := Lib.hid (ownsRow_base ho10 (bel (bel BZD.out (.cells #[.int .u8 (more.toNat : Int)] 5)) (.cells #[.int .i64 0, .slice none 0 0] 38)).size); obtain ⟨a10, k10, rfl⟩ := row_slice ho10; have L10a : w10.heap[W.heap.size]? = some (.cells #[.int .u8 (more.toNat : Int)] 5 (0, 0)) := keepcall hb10 (keepblk (heap_alloc_new W.drew _) _); have K10b : w10.heap[W.heap.size + 1]? = some (.cells #[.int .i64 0, .slice none 0 0] 38 (0, 0)) := keepcall hb10 (keepnew W.drew _ _); obtain ⟨d0, d1, d2, d3⟩ := cells4 (T8.out.on C10.out).2.1; clear ho10 hb10; simp only []) | (refine (copy_any _ y ((W.drew.alloc (.cells #[.int .i64 0, .slice none 0 0] 38)).alloc (.cells #[.int .u8 (more.toNat : Int)] 5)) (X8.out.on (bel (bel BZD.out (.cells #[.int .i64 0, .slice none 0 0] 38)) (.cells #[.int .u8 (more.toNat : Int)] 5))) HLYc.out).mono ?_; rintro e w10 ⟨v10, rfl, ho10, hb10⟩; have C10 : Hid (Below w8.heap.size w8 w10) := Lib.hid (bel_call (bel (bel BZD.out (.cells #[.int .i64 0, .slice none 0 0] 38)) (.cells #[.int .u8 (more.toNat : Int)] 5)) hb10); have O10 : Hid (w10.ownsRow w8.heap.size 5 1 v10 y.length (bcells y)) := Lib.hid (ownsRow_base ho10 (bel (bel BZD.out (.cells #[.int .i64 0, .slice none 0 0] 38)) (.cells #[.int .u8 (more.toNat : Int)] 5)).size); obtain ⟨a10, k10, rfl⟩ := row_slice ho10; have K10a : w10.heap[W.heap.size]? = some (.cells #[.int .i64 0, .slice none 0 0] 38 (0, 0)) := keepcall hb10 (keepblk (heap_alloc_new W.drew _) _); have L10b : w10.heap[W.heap.size + 1]? = some (.cells #[.int .u8 (more.toNat : Int)] 5 (0, 0)) := keepcall hb10 (keepnew W.drew _ _); obtain ⟨d0, d1, d2, d3⟩ := cells4 (T8.out.on C10.out).2.1; clear ho10 hb10; simp only []))
                  | (first | (refine step_app_byte rfl (.tmp 102) (.tmp 104) rfl rfl w8.heap.size y more (.slice a10 y.length k10) (w10.heap.size) rfl rfl (own_al O10.out _) (heap_alloc_new _ _) ((bel C10.out _).size) HLY.out ?_; intro v11 w11 ho11 hk11; have C11 : Hid (Below w8.heap.size w8 w11) := Lib.hid (Below.trans (bel C10.out _) (hk11.below ((bel C10.out _).size) (fun k hk => (O10.out.lt k hk).1))); (try (have K11a : w11.heap[W.heap.size]? = some (.cells #[.int .i64 0, .slice none 0 0] 38 (0, 0)) := keepapp hk11 (own_al O10.out _) (keepblk K10a _))); rw [HYL.out] at ho11; obtain ⟨a11, k11, rfl⟩ := row_slice ho11; have X11 := Lib.hid (bytesAt_own' ho11 HYL.out); obtain ⟨e0, e1, e2, e3⟩ := cells4 (T8.out.on C11.out).2.1; clear ho11 hk11) | (refine step_app_byte rfl (.tmp 102) (.tmp 104) rfl rfl w8.heap.size y more (.slice a10 y.length k10) (w10.heap.size) rfl rfl (own_al (own_al O10.out _) _) (keepblk (heap_alloc_new _ _) _) ((bel (bel C10.out _) _).size) HLY.out ?_; intro v11 w11 ho11 hk11; have C11 : Hid (Below w8.heap.size w8 w11) := Lib.hid (Below.trans (bel (bel C10.out _) _) (hk11.below ((bel (bel C10.out _) _).size) (fun k hk => (O10.out.lt k hk).1))); (try (have K11d : w11.heap[w10.heap.size + 1]? = some (.cells #[.int .i64 0, .slice none 0 0] 38 (0, 0)) := keepapp hk11 (own_al (own_al O10.out _) _) (keepnew _ _ _))); rw [HYL.out] at ho11; obtain ⟨a11, k11, rfl⟩ := row_slice ho11; have X11 := Lib.hid (bytesAt_own' ho11 HYL.out); obtain ⟨e0, e1, e2, e3⟩ := cells4 (T8.out.on C11.out).2.1; clear ho11 hk11) | (refine step_app_byte rfl (.tmp 102) (.tmp 104) rfl rfl w8.heap.size y more (.slice a10 y.length k10) (w10.heap.size + 1) rfl rfl (own_al (own_al O10.out _) _) (keepnew _ _ _) ((bel (bel C10.out _) _).size) HLY.out ?_; intro v11 w11 ho11 hk11; have C11 : Hid (Below w8.heap.size w8 w11) := Lib.hid (Below.trans (bel (bel C10.out _) _) (hk11.below ((bel (bel C10.out _) _).size) (fun k hk => (O10.out.lt k hk).1))); (try (have K11c : w11.heap[w10.heap.size]? = some (.cells #[.int .i64 0, .slice none 0 0] 38 (0, 0)) := keepapp hk11 (own_al (own_al O10.out _) _) (keepblk (heap_alloc_new _ _) _))); rw [HYL.out] at ho11; obtain ⟨a11, k11, rfl⟩ := row_slice ho11; have X11 := Lib.hid (bytesAt_own' ho11 HYL.out); obtain ⟨e0, e1, e2, e3⟩ := cells4 (T8.out.on C11.out).2.1; clear ho11 hk11) | (refine step_app_byte rfl (.tmp 102) (.tmp 104) rfl rfl w8.heap.size y more (.slice a10 y.length k10) (W.heap.size) rfl rfl (O10.out) (L10a) (C10.out.size) HLY.out ?_; intro v11 w11 ho11 hk11; have C11 : Hid (Below w8.heap.size w8 w11) := Lib.hid (Below.trans (C10.out) (hk11.below (C10.out.size) (fun k hk => (O10.out.lt k hk).1))); (try (have K11b : w11.heap[W.heap.size + 1]? = some (.cells #[.int .i64 0, .slice none 0 0] 38 (0, 0)) := keepapp hk11 (O10.out) K10b)); rw [HYL.out] at ho11; obtain ⟨a11, k11, rfl⟩ := row_slice ho11; have X11 := Lib.hid (bytesAt_own' ho11 HYL.out); obtain ⟨e0, e1, e2, e3⟩ := cells4 (T8.out.on C11.out).2.1; clear ho11 hk11) | (refine step_app_byte rfl (.tmp 102) (.tmp 104) rfl rfl w8.heap.size y more (.slice a10 y.length k10) (W.heap.size) rfl rfl (own_al O10.out _) (keepblk L10a _) ((bel C10.out _).size) HLY.out ?_; intro v11 w11 ho11 hk11; have C11 : Hid (Below w8.heap.size w8 w11) := Lib.hid (Below.trans (bel C10.out _) (hk11.below ((bel C10.out _).size) (fun k hk => (O10.out.lt k hk).1))); (try (have K11c : w11.heap[w10.heap.size]? = some (.cells #[.int .i64 0, .slice none 0 0] 38 (0, 0)) := keepapp hk11 (own_al O10.out _) (heap_alloc_new _ _))); rw [HYL.out] at ho11; obtain ⟨a11, k11, rfl⟩ := row_slice ho11; have X11 := Lib.hid (bytesAt_own' ho11 HYL.out); obtain ⟨e0, e1, e2, e3⟩ := cells4 (T8.out.on C11.out).2.1; clear ho11 hk11) | (refine step_app_byte rfl (.tmp 102) (.tmp 104) rfl rfl w8.heap.size y more (.slice a10 y.length k10) (W.heap.size + 1) rfl rfl (O10.out) (L10b) (C10.out.size) HLY.out ?_; intro v11 w11 ho11 hk11; have C11 : Hid (Below w8.heap.size w8 w11) := Lib.hid (Below.trans (C10.out) (hk11.below (C10.out.size) (fun k hk => (O10.out.lt k hk).1))); (try (have K11a : w11.heap[W.heap.size]? = some (.cells #[.int .i64 0, .slice none 0 0] 38 (0, 0)) := keepapp hk11 (O10.out) K10a)); rw [HYL.out] at ho11; obtain ⟨a11, k11, rfl⟩ := row_slice ho11; have X11 := Lib.hid (bytesAt_own' ho11 HYL.out); obtain ⟨e0, e1, e2, e3⟩ := cells4 (T8.out.on C11.out).2.1; clear ho11 hk11))
                  | (go_at_call 18; first | (refine (read_no ⟨f, s, c, vs⟩ _ _ (y ++ [more]) w11 (HV.out.on (T8.out.on C11.out).1) X11.out HL.out.1 HLYr.out HMRx.out).mono ?_; intro e w12 h; obtain ⟨b12, rfl, hb12⟩ := h.form; have C12 : Hid (Below w8.heap.size w8 w12) := Lib.hid (bel_call C11.out hb12); obtain ⟨h0', h1', h2', h3'⟩ := cells4 (T8.out.on C12.out).2.1; obtain ⟨i0, i1, i2, i3⟩ := cells4 (T8.out.on (bel C12.out (.cells #[.int .i64 0, .slice none 0 0] 38))).2.1; (first | (have Q12a : BoxP w12 (W.heap.size) 0 (.slice none 0 0) := keepcall hb12 K11a; have Q12af : ∀ o, w12.frozen? ⟨W.heap.size, o, none⟩ = false := fun o => frozen_of_row _ _ _ _ _ Q12a; have Q12a0 := Q12af 0; have Q12a1 := Q12af 1; obtain ⟨Q12a2, Q12a3⟩ := Q12a.cells; have Q12al : w8.heap.size ≤ W.heap.size := BZ.out.size; have ST : Hid (Below w8.heap.size w8 ((w12.setCell ⟨W.heap.size, 0, none⟩ (.int .i64 0)).setCell ⟨W.heap.size, 1, none⟩ (.slice none 0 0))) := Lib.hid ((C12.out.setCell (p := ⟨W.heap.size, 0, none⟩) Q12al (.int .i64 0)).setCell (p := ⟨W.heap.size, 1, none⟩) Q12al (.slice none 0 0)); obtain ⟨j0, j1, j2, j3⟩ := cells4 (T8.out.on ST.out).2.1; clear Q12a Q12af Q12al) | (have Q12b : BoxP w12 (W.heap.size + 1) 0 (.slice none 0 0) := keepcall hb12 K11b; have Q12bf : ∀ o, w12.frozen? ⟨W.heap.size + 1, o, none⟩ = false := fun o => frozen_of_row _ _ _ _ _ Q12b; have Q12b0 := Q12bf 0; have Q12b1 := Q12bf 1; obtain ⟨Q12b2, Q12b3⟩ := Q12b.cells; have Q12bl : w8.heap.size ≤ W.heap.size + 1 := Nat.le_succ_of_le BZ.out.size; have ST : Hid (Below w8.heap.size w8 ((w12.setCell ⟨W.heap.size + 1, 0, none⟩ (.int .i64 0)).setCell ⟨W.heap.size + 1, 1, none⟩ (.slice none 0 0))) := Lib.hid ((C12.out.setCell (p := ⟨W.heap.size + 1, 0, none⟩) Q12bl (.int .i64 0)).setCell (p := ⟨W.heap.size + 1, 1, none⟩) Q12bl (.slice none 0 0)); obtain ⟨j0, j1, j2, j3⟩ := cells4 (T8.out.on ST.out).2.1; clear Q12b Q12bf Q12bl) | (have Q12c : BoxP w12 (w10.heap.size) 0 (.slice none 0 0) := keepcall hb12 K11c; have Q12cf : ∀ o, w12.frozen? ⟨w10.heap.size, o, none⟩ = false := fun o => frozen_of_row _ _ _ _ _ Q12c; have Q12c0 := Q12cf 0; have Q12c1 := Q12cf 1; obtain ⟨Q12c2, Q12c3⟩ := Q12c.cells; have Q12cl : w8.heap.size ≤ w10.heap.size := C10.out.size; have ST : Hid (Below w8.heap.size w8 ((w12.setCell ⟨w10.heap.size, 0, none⟩ (.int .i64 0)).setCell ⟨w10.heap.size, 1, none⟩ (.slice none 0 0))) := Lib.hid ((C12.out.setCell (p := ⟨w10.heap.size, 0, none⟩) Q12cl (.int .i64 0)).setCell (p := ⟨w10.heap.size, 1, none⟩) Q12cl (.slice none 0 0)); obtain ⟨j0, j1, j2, j3⟩ := cells4 (T8.out.on ST.out).2.1; clear Q12c Q12cf Q12cl) | (have Q12d : BoxP w12 (w10.heap.size + 1) 0 (.slice none 0 0) := keepcall hb12 K11d; have Q12df : ∀ o, w12.frozen? ⟨w10.heap.size + 1, o, none⟩ = false := fun o => frozen_of_row _ _ _ _ _ Q12d; have Q12d0 := Q12df 0; have Q12d1 := Q12df 1; obtain ⟨Q12d2, Q12d3⟩ := Q12d.cells; have Q12dl : w8.heap.size ≤ w10.heap.size + 1 := Nat.le_succ_of_le C10.out.size; have ST : Hid (Below w8.heap.size w8 ((w12.setCell ⟨w10.heap.size + 1, 0, none⟩ (.int .i64 0)).setCell ⟨w10.heap.size + 1, 1, none⟩ (.slice none 0 0))) := Lib.hid ((C12.out.setCell (p := ⟨w10.heap.size + 1, 0, none⟩) Q12dl (.int .i64 0)).setCell (p := ⟨w10.heap.size + 1, 1, none⟩) Q12dl (.slice none 0 0)); obtain ⟨j0, j1, j2, j3⟩ := cells4 (T8.out.on ST.out).2.1; clear Q12d Q12df Q12dl) | skip); clear h hb12; unfold Rp.zero; simp only []) | (refine (read_no ⟨f, s, c, vs⟩ _ _ (y ++ [more]) (w11.alloc (.cells #[.int .i64 0, .slice none 0 0] 38)) (HV.out.on (T8.out.on (bel C11.out (.cells #[.int .i64 0, .slice none 0 0] 38))).1) (X11.out.on (below_new w11 (.cells #[.int .i64 0, .slice none 0 0] 38))) HL.out.1 HLYr.out HMRx.out).mono ?_; intro e w12 h; obtain ⟨b12, rfl, hb12⟩ := h.form; have C12 : Hid (Below w8.heap.size w8 w12) := Lib.hid (bel_call (bel C11.out (.cells #[.int .i64 0, .slice none 0 0] 38)) hb12); obtain ⟨h0', h1', h2', h3'⟩ := cells4 (T8.out.on C12.out).2.1; obtain ⟨i0, i1, i2, i3⟩ := cells4 (T8.out.on (bel C12.out (.cells #[.int .i64 0, .slice none 0 0] 38))).2.1; ((have Q12e : BoxP w12 (w11.heap.size) 0 (.slice none 0 0) := keepcall hb12 (heap_alloc_new w11 _); have Q12ef : ∀ o, w12.frozen? ⟨w11.heap.size, o, none⟩ = false := fun o => frozen_of_row _ _ _ _ _ Q12e; have Q12e0 := Q12ef 0; have Q12e1 := Q12ef 1; obtain ⟨Q12e2, Q12e3⟩ := Q12e.cells; have Q12el : w8.heap.size ≤ w11.heap.size := C11.out.size; have ST : Hid (Below w8.heap.size w8 ((w12.setCell ⟨w11.heap.size, 0, none⟩ (.int .i64 0)).setCell ⟨w11.heap.size, 1, none⟩ (.slice none 0 0))) := Lib.hid ((C12.out.setCell (p := ⟨w11.heap.size, 0, none⟩) Q12el (.int .i64 0)).setCell (p := ⟨w11.heap.size, 1, none⟩) Q12el (.slice none 0 0)); obtain ⟨j0, j1, j2, j3⟩ := cells4 (T8.out.on ST.out).2.1; clear Q12e Q12ef Q12el)); clear h hb12; unfold Rp.zero; simp only [])))
              all_goals
                clear c0 c1 c2 c3 d0 d1 d2 d3 e0 e1 e2 e3 h0' h1' h2' h3' i0 i1 i2 i3
                go_wp2_with fail
                first
                  | refine (quit _ (T8.out.on ST.out).1).out.mono ?_
                  | refine (quit _ (T8.out.on (bel C12.out _)).1).out.mono ?_
                rintro e wq ⟨rfl, hb⟩
                have HB := Lib.hid hb
                clear hb
                go_wp2
                go_ret
                exact ⟨rfl, HB.out⟩
          · have hcy' : (y.length : Int) ≤ (n : Int) := by omega
            clear hcy
            go_wp2_with fail
            refine (quit _ T8.out.1).out.mono ?_
            rintro e wq ⟨rfl, hb⟩
            have HB := Lib.hid hb
            clear hb
            go_wp2
            go_ret
            exact ⟨rfl, HB.out⟩
        · have HMR := Lib.hid hmr
          clear hmr
          refine (ans_no ⟨f, s, c, vs⟩ ⟨code, ps⟩ _ _ _ (HV.out.on T7.out.1) (HP.out.on T7.out.1) HMR.out HL.out.1 HL.out.2).mono ?_
          intro e w8 h
          obtain ⟨b8, rfl, hb⟩ := h.form
          have T8 := Lib.hid (T7.out.on hb)
          clear h hb c0 c1 c2 c3
          go_wp2_with fail
          refine (quit _ T8.out.1).out.mono ?_
          rintro e wq ⟨rfl, hb⟩
          have HB := Lib.hid hb
          clear hb
          go_wp2
          go_ret
          exact ⟨rfl, HB.out⟩
      · have hcx' : (x.length : Int) ≤ (n : Int) := by omega
        clear hcx
        obtain ⟨c0, c1, c2, c3⟩ := cells4 T2.out.2.1
        obtain ⟨p0, p1⟩ := T2.out.2.2.cells
        go_wp2_with fail
        clear p0 p1
        rcases Bool.eq_false_or_eq_true (Rq.may ⟨f, s, c, vs⟩ && mayR ⟨f, s, c, vs⟩ ⟨code, ps⟩) with hmr | hmr
        · have HMR := Lib.hid (by rwa [Bool.and_eq_true] at hmr : Rq.may ⟨f, s, c, vs⟩ = true ∧ mayR ⟨f, s, c, vs⟩ ⟨code, ps⟩ = true)
          have HLA := Lib.hid (ansF_length HMR.out.1 HMR.out.2)
          have HRC := Lib.hid (read_cut HMR.out.1 HMR.out.2)
          have HRM := Lib.hid (read_more HMR.out.1 HMR.out.2 more)
          clear hmr
          refine (ans_ok ⟨f, s, c, vs⟩ ⟨code, ps⟩ _ _ _ (HV.out.on T2.out.1) (HP.out.on T2.out.1) HMR.out.1 HMR.out.2 HL.out.1 HL.out.2).mono ?_
          intro e w8 h
          obtain ⟨a8, k8, rfl, hx, hk, hb⟩ := h.form
          have T8 := Lib.hid (T2.out.on hb)
          have X8 := Lib.hid hx
          generalize ansF ⟨f, s, c, vs⟩ ⟨code, ps⟩ = y at *
          have hy5 : (2 : Int) ≤ (y.length : Int) := by have := HLA.out.1; omega
          have hyk : (y.length : Int) ≤ (k8 : Int) := by omega
          obtain ⟨g8, o8, rfl⟩ := some_of X8.out (by have := HLA.out.1; omega)
          clear h hx hb hk c0 c1 c2 c3
          by_cases hcy : (n : Int) < (y.length : Int)
          · have hny : n ≤ k8 := by omega
            have HNY : Hid (n < y.length) := Lib.hid (by omega)
            obtain ⟨c0, c1, c2, c3⟩ := cells4 T8.out.2.1
            have HLT : Hid ((y.take n).length ≤ 100000) := Lib.hid (by rw [List.length_take]; have := HLA.out; omega)
            have HRCx : Hid ((Rq.may ⟨f, s, c, vs⟩ && readB ⟨f, s, c, vs⟩ (y.take n)) = false) := Lib.hid (by rw [HMR.out.1, Bool.true_and]; exact HRC.out n HNY.out)
            have BD : Hid (Below w8.heap.size w8 w8.drew) := Lib.hid (Below.refl _ _).drew
            have TD := Lib.hid (T8.out.on BD.out)
            have XD := Lib.hid (X8.out.on BD.out)
            have TA : Hid (Two w (w8.drew.alloc (.cells #[.int .i64 0, .slice none 0 0] 38)) f s c (.slice av vs.length kv) code (.slice ap ps.length kp)) := Lib.hid (TD.out.on (below_new _ _))
            have XA := Lib.hid (XD.out.on (below_new w8.drew (.cells #[.int .i64 0, .slice none 0 0] 38)))
            clear c0 c1 c2 c3
            obtain ⟨c0, c1, c2, c3⟩ := cells4 TD.out.2.1
            obtain ⟨d0, d1, d2, d3⟩ := cells4 TA.out.2.1
            go_wp2_with fail
            go_region_held3 (fun w' => w'.cell? ⟨w.heap.size, 0, none⟩ = some (.int .i64 f) ∧ w'.cell? ⟨w.heap.size, 1, none⟩ = some (.int .i64 s) ∧ w'.cell? ⟨w.heap.size, 2, none⟩ = some (.int .i64 c) ∧ w'.cell? ⟨w.heap.size, 3, none⟩ = some (.slice av vs.length kv))
              (first
                | exact ⟨c0, c1, c2, c3⟩
                | exact ⟨d0, d1, d2, d3⟩
                | exact ⟨e0, e1, e2, e3⟩
                | exact ⟨h0', h1', h2', h3'⟩
                | exact ⟨i0, i1, i2, i3⟩
                | go_keep)
              ((go_at_call 18; first | (refine (read_no ⟨f, s, c, vs⟩ _ _ (y.take n) w8.drew (HV.out.on TD.out.1) (bytes_take XD.out (Nat.le_of_lt HNY.out)) HL.out.1 HLT.out HRCx.out).mono ?_; intro e w9 h; obtain ⟨b9, rfl, hb9⟩ := h.form; have BW : Hid (Below w8.heap.size w8 w9) := Lib.hid (bel_call BD.out hb9); obtain ⟨e0, e1, e2, e3⟩ := cells4 (T8.out.on BW.out).2.1; obtain ⟨h0', h1', h2', h3'⟩ := cells4 (T8.out.on ((BW.out.setCell (p := ⟨w8.heap.size, 0, none⟩) (Nat.le_refl _) (.int .i64 0)).setCell (p := ⟨w8.heap.size, 1, none⟩) (Nat.le_refl _) (.slice none 0 0))).2.1; obtain ⟨i0, i1, i2, i3⟩ := cells4 (T8.out.on (BW.out.alloc BW.out.size (.cells #[.int .i64 0, .slice none 0 0] 38))).2.1; clear h hb9; unfold Rp.zero; simp only []) | (refine (read_no ⟨f, s, c, vs⟩ _ _ (y.take n) (w8.drew.alloc (.cells #[.int .i64 0, .slice none 0 0] 38)) (HV.out.on TA.out.1) (bytes_take XA.out (Nat.le_of_lt HNY.out)) HL.out.1 HLT.out HRCx.out).mono ?_; intro e w9 h; obtain ⟨b9, rfl, hb9⟩ := h.form; have BW : Hid (Below w8.heap.size w8 w9) := Lib.hid (bel_call (bel BD.out (.cells #[.int .i64 0, .slice none 0 0] 38)) hb9); obtain ⟨e0, e1, e2, e3⟩ := cells4 (T8.out.on BW.out).2.1; obtain ⟨h0', h1', h2', h3'⟩ := cells4 (T8.out.on ((BW.out.setCell (p := ⟨w8.heap.size, 0, none⟩) (Nat.le_refl _) (.int .i64 0)).setCell (p := ⟨w8.heap.size, 1, none⟩) (Nat.le_refl _) (.slice none 0 0))).2.1; obtain ⟨i0, i1, i2, i3⟩ := cells4 (T8.out.on (BW.out.alloc BW.out.size (.cells #[.int .i64 0, .slice none 0 0] 38))).2.1; have q9 : BoxP w9 w8.heap.size 0 (.slice none 0 0) := keepcall hb9 (heap_alloc_new w8.drew _); have q9f : ∀ o, w9.frozen? ⟨w8.heap.size, o, none⟩ = false := fun o => frozen_of_row _ _ _ _ _ q9; have m0 := q9f 0; have m1 := q9f 1; obtain ⟨k0, k1⟩ := q9.cells; clear q9 q9f; clear h hb9; unfold Rp.zero; simp only [])))
            all_goals
              first
                | (obtain ⟨W, hW⟩ : ∃ W, W = w9.alloc (.cells #[.int .i64 0, .slice none 0 0] 38) := ⟨_, rfl⟩
                   have BZ : Hid (Below w8.heap.size w8 W) := Lib.hid (by rw [hW]; exact BW.out.alloc BW.out.size _)
                   rw [← hW]
                   clear hW)
                | (obtain ⟨W, hW⟩ : ∃ W, W = (w9.setCell ⟨w8.heap.size, 0, none⟩ (.int .i64 0)).setCell ⟨w8.heap.size, 1, none⟩ (.slice none 0 0) := ⟨_, rfl⟩
                   have BZ : Hid (Below w8.heap.size w8 W) := Lib.hid (by rw [hW]; exact (BW.out.setCell (p := ⟨w8.heap.size, 0, none⟩) (Nat.le_refl _) (.int .i64 0)).setCell (p := ⟨w8.heap.size, 1, none⟩) (Nat.le_refl _) (.slice none 0 0))
                   rw [← hW]
                   clear hW)
              clear c0 c1 c2 c3 d0 d1 d2 d3 e0 e1 e2 e3 h0' h1' h2' h3' i0 i1 i2 i3
              try clear m0 m1 k0 k1
              have HLY : Hid (y.length ≤ 1000000) := Lib.hid (by have := HLA.out; omega)
              obtain ⟨yl, hyl⟩ : ∃ n, (y ++ [more]).length = n := ⟨_, rfl⟩
              have HYL := Lib.hid hyl
              clear hyl
              have HLYc : Hid (y.length ≤ 140737488355328) := Lib.hid (by have := HLA.out; omega)
              have HLYr : Hid ((y ++ [more]).length ≤ 100000) := Lib.hid (by rw [List.length_append]; have := HLA.out; show y.length + 1 ≤ 100000; omega)
              have HMRx : Hid ((Rq.may ⟨f, s, c, vs⟩ && readB ⟨f, s, c, vs⟩ (y ++ [more])) = false) := Lib.hid (by rw [HMR.out.1, Bool.true_and]; exact HRM.out)
              have BZD : Hid (Below w8.heap.size w8 W.drew) := Lib.hid BZ.out.drew
              obtain ⟨c0, c1, c2, c3⟩ := cells4 (T8.out.on BZD.out).2.1
              go_wp2_with fail
              go_region_held3 (fun w' => w'.cell? ⟨w.heap.size, 0, none⟩ = some (.int .i64 f) ∧ w'.cell? ⟨w.heap.size, 1, none⟩ = some (.int .i64 s) ∧ w'.cell? ⟨w.heap.size, 2, none⟩ = some (.int .i64 c) ∧ w'.cell? ⟨w.heap.size, 3, none⟩ = some (.slice av vs.length kv))
                (first
                  | exact ⟨c0, c1, c2, c3⟩
                  | exact ⟨d0, d1, d2, d3⟩
                  | exact ⟨e0, e1, e2, e3⟩
                  | exact ⟨h0', h1', h2', h3'⟩
                  | exact ⟨i0, i1, i2, i3⟩
                  | exact ⟨j0, j1, j2, j3⟩
                  | (refine cells4 (T8.out.on ?_).2.1; (repeat (first | exact BZD.out | exact C10.out | exact C11.out | refine bel ?_ _)); done)
                  | (refine cells4 (T8.out.on ?_).2.1; (repeat (first | exact BZD.out | exact C10.out | exact C11.out | exact BZ.out | refine bel ?_ _ | refine Below.drew ?_)); done)
                  | exact cells4 (T8.out.on (bel BZD.out (.cells #[.int .u8 (more.toNat : Int)] 5))).2.1
                  | exact cells4 (T8.out.on (bel (bel BZD.out (.cells #[.int .u8 (more.toNat : Int)] 5)) (.cells #[.int .i64 0, .slice none 0 0] 38))).2.1
                  | exact cells4 (T8.out.on (bel (bel BZD.out (.cells #[.int .i64 0, .slice none 0 0] 38)) (.cells #[.int .u8 (more.toNat : Int)] 5))).2.1
                  | go_keep)
                (first
                  | (go_at_call 20; first | (refine (copy_any _ y W.drew (X8.out.on BZD.out) HLYc.out).mono ?_; rintro e w10 ⟨v10, rfl, ho10, hb10⟩; have C10 : Hid (Below w8.heap.size w8 w10) := Lib.hid (bel_call BZD.out hb10); have O10 : Hid (w10.ownsRow w8.heap.size 5 1 v10 y.length (bcells y)) := Lib.hid (ownsRow_base ho10 BZD.out.size); obtain ⟨a10, k10, rfl⟩ := row_slice ho10; obtain ⟨d0, d1, d2, d3⟩ := cells4 (T8.out.on C10.out).2.1; clear ho10 hb10; simp only []) | (refine (copy_any _ y (W.drew.alloc (.cells #[.int .u8 (more.toNat : Int)] 5)) (X8.out.on (bel BZD.out (.cells #[.int .u8 (more.toNat : Int)] 5))) HLYc.out).mono ?_; rintro e w10 ⟨v10, rfl, ho10, hb10⟩; have C10 : Hid (Below w8.heap.size w8 w10) := Lib.hid (bel_call (bel BZD.out (.cells #[.int .u8 (more.toNat : Int)] 5)) hb10); have O10 : Hid (w10.ownsRow w8.heap.size 5 1 v10 y.length (bcells y)) := Lib.hid (ownsRow_base ho10 (bel BZD.out (.cells #[.int .u8 (more.toNat : Int)] 5)).size); obtain ⟨a10, k10, rfl⟩ := row_slice ho10; have L10a : w10.heap[W.heap.size]? = some (.cells #[.int .u8 (more.toNat : Int)] 5 (0, 0)) := keepcall hb10 (heap_alloc_new W.drew _); obtain ⟨d0, d1, d2, d3⟩ := cells4 (T8.out.on C10.out).2.1; clear ho10 hb10; simp only []) | (refine (copy_any _ y (W.drew.alloc (.cells #[.int .i64 0, .slice none 0 0] 38)) (X8.out.on (bel BZD.out (.cells #[.int .i64 0, .slice none 0 0] 38))) HLYc.out).mono ?_; rintro e w10 ⟨v10, rfl, ho10, hb10⟩; have C10 : Hid (Below w8.heap.size w8 w10) := Lib.hid (bel_call (bel BZD.out (.cells #[.int .i64 0, .slice none 0 0] 38)) hb10); have O10 : Hid (w10.ownsRow w8.heap.size 5 1 v10 y.length (bcells y)) := Lib.hid (ownsRow_base ho10 (bel BZD.out (.cells #[.int .i64 0, .slice none 0 0] 38)).size); obtain ⟨a10, k10, rfl⟩ := row_slice ho10; have K10a : w10.heap[W.heap.size]? = some (.cells #[.int .i64 0, .slice none 0 0] 38 (0, 0)) := keepcall hb10 (heap_alloc_new W.drew _); obtain ⟨d0, d1, d2, d3⟩ := cells4 (T8.out.on C10.out).2.1; clear ho10 hb10; simp only []) | (refine (copy_any _ y ((W.drew.alloc (.cells #[.int .u8 (more.toNat : Int)] 5)).alloc (.cells #[.int .i64 0, .slice none 0 0] 38)) (X8.out.on (bel (bel BZD.out (.cells #[.int .u8 (more.toNat : Int)] 5)) (.cells #[.int .i64 0, .slice none 0 0] 38))) HLYc.out).mono ?_; rintro e w10 ⟨v10, rfl, ho10, hb10⟩; have C10 : Hid (Below w8.heap.size w8 w10) := Lib.hid (bel_call (bel (bel BZD.out (.cells #[.int .u8 (more.toNat : Int)] 5)) (.cells #[.int .i64 0, .slice none 0 0] 38)) hb10); have O10 : Hid (w10.ownsRow w8.heap.size 5 1 v10 y.length (bcells y)) := Lib.hid (ownsRow_base ho10 (bel (bel BZD.out (.cells #[.int .u8 (more.toNat : Int)] 5)) (.cells #[.int .i64 0, .slice none 0 0] 38)).size); obtain ⟨a10, k10, rfl⟩ := row_slice ho10; have L10a : w10.heap[W.heap.size]? = some (.cells #[.int .u8 (more.toNat : Int)] 5 (0, 0)) := keepcall hb10 (keepblk (heap_alloc_new W.drew _) _); have K10b : w10.heap[W.heap.size + 1]? = some (.cells #[.int .i64 0, .slice none 0 0] 38 (0, 0)) := keepcall hb10 (keepnew W.drew _ _); obtain ⟨d0, d1, d2, d3⟩ := cells4 (T8.out.on C10.out).2.1; clear ho10 hb10; simp only []) | (refine (copy_any _ y ((W.drew.alloc (.cells #[.int .i64 0, .slice none 0 0] 38)).alloc (.cells #[.int .u8 (more.toNat : Int)] 5)) (X8.out.on (bel (bel BZD.out (.cells #[.int .i64 0, .slice none 0 0] 38)) (.cells #[.int .u8 (more.toNat : Int)] 5))) HLYc.out).mono ?_; rintro e w10 ⟨v10, rfl, ho10, hb10⟩; have C10 : Hid (Below w8.heap.size w8 w10) := Lib.hid (bel_call (bel (bel BZD.out (.cells #[.int .i64 0, .slice none 0 0] 38)) (.cells #[.int .u8 (more.toNat : Int)] 5)) hb10); have O10 : Hid (w10.ownsRow w8.heap.size 5 1 v10 y.length (bcells y)) := Lib.hid (ownsRow_base ho10 (bel (bel BZD.out (.cells #[.int .i64 0, .slice none 0 0] 38)) (.cells #[.int .u8 (more.toNat : Int)] 5)).size); obtain ⟨a10, k10, rfl⟩ := row_slice ho10; have K10a : w10.heap[W.heap.size]? = some (.cells #[.int .i64 0, .slice none 0 0] 38 (0, 0)) := keepcall hb10 (keepblk (heap_alloc_new W.drew _) _); have L10b : w10.heap[W.heap.size + 1]? = some (.cells #[.int .u8 (more.toNat : Int)] 5 (0, 0)) := keepcall hb10 (keepnew W.drew _ _); obtain ⟨d0, d1, d2, d3⟩ := cells4 (T8.out.on C10.out).2.1; clear ho10 hb10; simp only []))
                  | (first | (refine step_app_byte rfl (.tmp 102) (.tmp 104) rfl rfl w8.heap.size y more (.slice a10 y.length k10) (w10.heap.size) rfl rfl (own_al O10.out _) (heap_alloc_new _ _) ((bel C10.out _).size) HLY.out ?_; intro v11 w11 ho11 hk11; have C11 : Hid (Below w8.heap.size w8 w11) := Lib.hid (Below.trans (bel C10.out _) (hk11.below ((bel C10.out _).size) (fun k hk => (O10.out.lt k hk).1))); (try (have K11a : w11.heap[W.heap.size]? = some (.cells #[.int .i64 0, .slice none 0 0] 38 (0, 0)) := keepapp hk11 (own_al O10.out _) (keepblk K10a _))); rw [HYL.out] at ho11; obtain ⟨a11, k11, rfl⟩ := row_slice ho11; have X11 := Lib.hid (bytesAt_own' ho11 HYL.out); obtain ⟨e0, e1, e2, e3⟩ := cells4 (T8.out.on C11.out).2.1; clear ho11 hk11) | (refine step_app_byte rfl (.tmp 102) (.tmp 104) rfl rfl w8.heap.size y more (.slice a10 y.length k10) (w10.heap.size) rfl rfl (own_al (own_al O10.out _) _) (keepblk (heap_alloc_new _ _) _) ((bel (bel C10.out _) _).size) HLY.out ?_; intro v11 w11 ho11 hk11; have C11 : Hid (Below w8.heap.size w8 w11) := Lib.hid (Below.trans (bel (bel C10.out _) _) (hk11.below ((bel (bel C10.out _) _).size) (fun k hk => (O10.out.lt k hk).1))); (try (have K11d : w11.heap[w10.heap.size + 1]? = some (.cells #[.int .i64 0, .slice none 0 0] 38 (0, 0)) := keepapp hk11 (own_al (own_al O10.out _) _) (keepnew _ _ _))); rw [HYL.out] at ho11; obtain ⟨a11, k11, rfl⟩ := row_slice ho11; have X11 := Lib.hid (bytesAt_own' ho11 HYL.out); obtain ⟨e0, e1, e2, e3⟩ := cells4 (T8.out.on C11.out).2.1; clear ho11 hk11) | (refine step_app_byte rfl (.tmp 102) (.tmp 104) rfl rfl w8.heap.size y more (.slice a10 y.length k10) (w10.heap.size + 1) rfl rfl (own_al (own_al O10.out _) _) (keepnew _ _ _) ((bel (bel C10.out _) _).size) HLY.out ?_; intro v11 w11 ho11 hk11; have C11 : Hid (Below w8.heap.size w8 w11) := Lib.hid (Below.trans (bel (bel C10.out _) _) (hk11.below ((bel (bel C10.out _) _).size) (fun k hk => (O10.out.lt k hk).1))); (try (have K11c : w11.heap[w10.heap.size]? = some (.cells #[.int .i64 0, .slice none 0 0] 38 (0, 0)) := keepapp hk11 (own_al (own_al O10.out _) _) (keepblk (heap_alloc_new _ _) _))); rw [HYL.out] at ho11; obtain ⟨a11, k11, rfl⟩ := row_slice ho11; have X11 := Lib.hid (bytesAt_own' ho11 HYL.out); obtain ⟨e0, e1, e2, e3⟩ := cells4 (T8.out.on C11.out).2.1; clear ho11 hk11) | (refine step_app_byte rfl (.tmp 102) (.tmp 104) rfl rfl w8.heap.size y more (.slice a10 y.length k10) (W.heap.size) rfl rfl (O10.out) (L10a) (C10.out.size) HLY.out ?_; intro v11 w11 ho11 hk11; have C11 : Hid (Below w8.heap.size w8 w11) := Lib.hid (Below.trans (C10.out) (hk11.below (C10.out.size) (fun k hk => (O10.out.lt k hk).1))); (try (have K11b : w11.heap[W.heap.size + 1]? = some (.cells #[.int .i64 0, .slice none 0 0] 38 (0, 0)) := keepapp hk11 (O10.out) K10b)); rw [HYL.out] at ho11; obtain ⟨a11, k11, rfl⟩ := row_slice ho11; have X11 := Lib.hid (bytesAt_own' ho11 HYL.out); obtain ⟨e0, e1, e2, e3⟩ := cells4 (T8.out.on C11.out).2.1; clear ho11 hk11) | (refine step_app_byte rfl (.tmp 102) (.tmp 104) rfl rfl w8.heap.size y more (.slice a10 y.length k10) (W.heap.size) rfl rfl (own_al O10.out _) (keepblk L10a _) ((bel C10.out _).size) HLY.out ?_; intro v11 w11 ho11 hk11; have C11 : Hid (Below w8.heap.size w8 w11) := Lib.hid (Below.trans (bel C10.out _) (hk11.below ((bel C10.out _).size) (fun k hk => (O10.out.lt k hk).1))); (try (have K11c : w11.heap[w10.heap.size]? = some (.cells #[.int .i64 0, .slice none 0 0] 38 (0, 0)) := keepapp hk11 (own_al O10.out _) (heap_alloc_new _ _))); rw [HYL.out] at ho11; obtain ⟨a11, k11, rfl⟩ := row_slice ho11; have X11 := Lib.hid (bytesAt_own' ho11 HYL.out); obtain ⟨e0, e1, e2, e3⟩ := cells4 (T8.out.on C11.out).2.1; clear ho11 hk11) | (refine step_app_byte rfl (.tmp 102) (.tmp 104) rfl rfl w8.heap.size y more (.slice a10 y.length k10) (W.heap.size + 1) rfl rfl (O10.out) (L10b) (C10.out.size) HLY.out ?_; intro v11 w11 ho11 hk11; have C11 : Hid (Below w8.heap.size w8 w11) := Lib.hid (Below.trans (C10.out) (hk11.below (C10.out.size) (fun k hk => (O10.out.lt k hk).1))); (try (have K11a : w11.heap[W.heap.size]? = some (.cells #[.int .i64 0, .slice none 0 0] 38 (0, 0)) := keepapp hk11 (O10.out) K10a)); rw [HYL.out] at ho11; obtain ⟨a11, k11, rfl⟩ := row_slice ho11; have X11 := Lib.hid (bytesAt_own' ho11 HYL.out); obtain ⟨e0, e1, e2, e3⟩ := cells4 (T8.out.on C11.out).2.1; clear ho11 hk11))
                  | (go_at_call 18; first | (refine (read_no ⟨f, s, c, vs⟩ _ _ (y ++ [more]) w11 (HV.out.on (T8.out.on C11.out).1) X11.out HL.out.1 HLYr.out HMRx.out).mono ?_; intro e w12 h; obtain ⟨b12, rfl, hb12⟩ := h.form; have C12 : Hid (Below w8.heap.size w8 w12) := Lib.hid (bel_call C11.out hb12); obtain ⟨h0', h1', h2', h3'⟩ := cells4 (T8.out.on C12.out).2.1; obtain ⟨i0, i1, i2, i3⟩ := cells4 (T8.out.on (bel C12.out (.cells #[.int .i64 0, .slice none 0 0] 38))).2.1; (first | (have Q12a : BoxP w12 (W.heap.size) 0 (.slice none 0 0) := keepcall hb12 K11a; have Q12af : ∀ o, w12.frozen? ⟨W.heap.size, o, none⟩ = false := fun o => frozen_of_row _ _ _ _ _ Q12a; have Q12a0 := Q12af 0; have Q12a1 := Q12af 1; obtain ⟨Q12a2, Q12a3⟩ := Q12a.cells; have Q12al : w8.heap.size ≤ W.heap.size := BZ.out.size; have ST : Hid (Below w8.heap.size w8 ((w12.setCell ⟨W.heap.size, 0, none⟩ (.int .i64 0)).setCell ⟨W.heap.size, 1, none⟩ (.slice none 0 0))) := Lib.hid ((C12.out.setCell (p := ⟨W.heap.size, 0, none⟩) Q12al (.int .i64 0)).setCell (p := ⟨W.heap.size, 1, none⟩) Q12al (.slice none 0 0)); obtain ⟨j0, j1, j2, j3⟩ := cells4 (T8.out.on ST.out).2.1; clear Q12a Q12af Q12al) | (have Q12b : BoxP w12 (W.heap.size + 1) 0 (.slice none 0 0) := keepcall hb12 K11b; have Q12bf : ∀ o, w12.frozen? ⟨W.heap.size + 1, o, none⟩ = false := fun o => frozen_of_row _ _ _ _ _ Q12b; have Q12b0 := Q12bf 0; have Q12b1 := Q12bf 1; obtain ⟨Q12b2, Q12b3⟩ := Q12b.cells; have Q12bl : w8.heap.size ≤ W.heap.size + 1 := Nat.le_succ_of_le BZ.out.size; have ST : Hid (Below w8.heap.size w8 ((w12.setCell ⟨W.heap.size + 1, 0, none⟩ (.int .i64 0)).setCell ⟨W.heap.size + 1, 1, none⟩ (.slice none 0 0))) := Lib.hid ((C12.out.setCell (p := ⟨W.heap.size + 1, 0, none⟩) Q12bl (.int .i64 0)).setCell (p := ⟨W.heap.size + 1, 1, none⟩) Q12bl (.slice none 0 0)); obtain ⟨j0, j1, j2, j3⟩ := cells4 (T8.out.on ST.out).2.1; clear Q12b Q12bf Q12bl) | (have Q12c : BoxP w12 (w10.heap.size) 0 (.slice none 0 0) := keepcall hb12 K11c; have Q12cf : ∀ o, w12.frozen? ⟨w10.heap.size, o, none⟩ = false := fun o => frozen_of_row _ _ _ _ _ Q12c; have Q12c0 := Q12cf 0; have Q12c1 := Q12cf 1; obtain ⟨Q12c2, Q12c3⟩ := Q12c.cells; have Q12cl : w8.heap.size ≤ w10.heap.size := C10.out.size; have ST : Hid (Below w8.heap.size w8 ((w12.setCell ⟨w10.heap.size, 0, none⟩ (.int .i64 0)).setCell ⟨w10.heap.size, 1, none⟩ (.slice none 0 0))) := Lib.hid ((C12.out.setCell (p := ⟨w10.heap.size, 0, none⟩) Q12cl (.int .i64 0)).setCell (p := ⟨w10.heap.size, 1, none⟩) Q12cl (.slice none 0 0)); obtain ⟨j0, j1, j2, j3⟩ := cells4 (T8.out.on ST.out).2.1; clear Q12c Q12cf Q12cl) | (have Q12d : BoxP w12 (w10.heap.size + 1) 0 (.slice none 0 0) := keepcall hb12 K11d; have Q12df : ∀ o, w12.frozen? ⟨w10.heap.size + 1, o, none⟩ = false := fun o => frozen_of_row _ _ _ _ _ Q12d; have Q12d0 := Q12df 0; have Q12d1 := Q12df 1; obtain ⟨Q12d2, Q12d3⟩ := Q12d.cells; have Q12dl : w8.heap.size ≤ w10.heap.size + 1 := Nat.le_succ_of_le C10.out.size; have ST : Hid (Below w8.heap.size w8 ((w12.setCell ⟨w10.heap.size + 1, 0, none⟩ (.int .i64 0)).setCell ⟨w10.heap.size + 1, 1, none⟩ (.slice none 0 0))) := Lib.hid ((C12.out.setCell (p := ⟨w10.heap.size + 1, 0, none⟩) Q12dl (.int .i64 0)).setCell (p := ⟨w10.heap.size + 1, 1, none⟩) Q12dl (.slice none 0 0)); obtain ⟨j0, j1, j2, j3⟩ := cells4 (T8.out.on ST.out).2.1; clear Q12d Q12df Q12dl) | skip); clear h hb12; unfold Rp.zero; simp only []) | (refine (read_no ⟨f, s, c, vs⟩ _ _ (y ++ [more]) (w11.alloc (.cells #[.int .i64 0, .slice none 0 0] 38)) (HV.out.on (T8.out.on (bel C11.out (.cells #[.int .i64 0, .slice none 0 0] 38))).1) (X11.out.on (below_new w11 (.cells #[.int .i64 0, .slice none 0 0] 38))) HL.out.1 HLYr.out HMRx.out).mono ?_; intro e w12 h; obtain ⟨b12, rfl, hb12⟩ := h.form; have C12 : Hid (Below w8.heap.size w8 w12) := Lib.hid (bel_call (bel C11.out (.cells #[.int .i64 0, .slice none 0 0] 38)) hb12); obtain ⟨h0', h1', h2', h3'⟩ := cells4 (T8.out.on C12.out).2.1; obtain ⟨i0, i1, i2, i3⟩ := cells4 (T8.out.on (bel C12.out (.cells #[.int .i64 0, .slice none 0 0] 38))).2.1; ((have Q12e : BoxP w12 (w11.heap.size) 0 (.slice none 0 0) := keepcall hb12 (heap_alloc_new w11 _); have Q12ef : ∀ o, w12.frozen? ⟨w11.heap.size, o, none⟩ = false := fun o => frozen_of_row _ _ _ _ _ Q12e; have Q12e0 := Q12ef 0; have Q12e1 := Q12ef 1; obtain ⟨Q12e2, Q12e3⟩ := Q12e.cells; have Q12el : w8.heap.size ≤ w11.heap.size := C11.out.size; have ST : Hid (Below w8.heap.size w8 ((w12.setCell ⟨w11.heap.size, 0, none⟩ (.int .i64 0)).setCell ⟨w11.heap.size, 1, none⟩ (.slice none 0 0))) := Lib.hid ((C12.out.setCell (p := ⟨w11.heap.size, 0, none⟩) Q12el (.int .i64 0)).setCell (p := ⟨w11.heap.size, 1, none⟩) Q12el (.slice none 0 0)); obtain ⟨j0, j1, j2, j3⟩ := cells4 (T8.out.on ST.out).2.1; clear Q12e Q12ef Q12el)); clear h hb12; unfold Rp.zero; simp only [])))
              all_goals
                clear c0 c1 c2 c3 d0 d1 d2 d3 e0 e1 e2 e3 h0' h1' h2' h3' i0 i1 i2 i3
                go_wp2_with fail
                first
                  | refine (quit _ (T8.out.on ST.out).1).out.mono ?_
                  | refine (quit _ (T8.out.on (bel C12.out _)).1).out.mono ?_
                rintro e wq ⟨rfl, hb⟩
                have HB := Lib.hid hb
                clear hb
                go_wp2
                go_ret
                exact ⟨rfl, HB.out⟩
          · have hcy' : (y.length : Int) ≤ (n : Int) := by omega
            clear hcy
            go_wp2_with fail
            refine (quit _ T8.out.1).out.mono ?_
            rintro e wq ⟨rfl, hb⟩
            have HB := Lib.hid hb
            clear hb
            go_wp2
            go_ret
            exact ⟨rfl, HB.out⟩
        · have HMR := Lib.hid hmr
          clear hmr
          refine (ans_no ⟨f, s, c, vs⟩ ⟨code, ps⟩ _ _ _ (HV.out.on T2.out.1) (HP.out.on T2.out.1) HMR.out HL.out.1 HL.out.2).mono ?_
          intro e w8 h
          obtain ⟨b8, rfl, hb⟩ := h.form
          have T8 := Lib.hid (T2.out.on hb)
          clear h hb c0 c1 c2 c3
          go_wp2_with fail
          refine (quit _ T8.out.1).out.mono ?_
          rintro e wq ⟨rfl, hb⟩
          have HB := Lib.hid hb
          clear hb
          go_wp2
          go_ret
          exact ⟨rfl, HB.out⟩
    · have HM := Lib.hid hm
      clear hm
      refine (enc_no ⟨f, s, c, vs⟩ _ w1 (HV.out.on T1.out.1) HM.out HL.out.1).mono ?_
      intro e w2 h
      obtain ⟨b2, rfl, hb⟩ := h.form
      have T2 := Lib.hid (T1.out.on hb)
      clear h hb c0 c1 c2 c3
      obtain ⟨c0, c1, c2, c3⟩ := cells4 T2.out.2.1
      obtain ⟨p0, p1⟩ := T2.out.2.2.cells
      go_wp2_with fail
      clear p0 p1
      rcases Bool.eq_false_or_eq_true (Rq.may ⟨f, s, c, vs⟩ && mayR ⟨f, s, c, vs⟩ ⟨code, ps⟩) with hmr | hmr
      · have HMR := Lib.hid (by rwa [Bool.and_eq_true] at hmr : Rq.may ⟨f, s, c, vs⟩ = true ∧ mayR ⟨f, s, c, vs⟩ ⟨code, ps⟩ = true)
        have HLA := Lib.hid (ansF_length HMR.out.1 HMR.out.2)
        have HRC := Lib.hid (read_cut HMR.out.1 HMR.out.2)
        have HRM := Lib.hid (read_more HMR.out.1 HMR.out.2 more)
        clear hmr
        refine (ans_ok ⟨f, s, c, vs⟩ ⟨code, ps⟩ _ _ _ (HV.out.on T2.out.1) (HP.out.on T2.out.1) HMR.out.1 HMR.out.2 HL.out.1 HL.out.2).mono ?_
        intro e w8 h
        obtain ⟨a8, k8, rfl, hx, hk, hb⟩ := h.form
        have T8 := Lib.hid (T2.out.on hb)
        have X8 := Lib.hid hx
        generalize ansF ⟨f, s, c, vs⟩ ⟨code, ps⟩ = y at *
        have hy5 : (2 : Int) ≤ (y.length : Int) := by have := HLA.out.1; omega
        have hyk : (y.length : Int) ≤ (k8 : Int) := by omega
        obtain ⟨g8, o8, rfl⟩ := some_of X8.out (by have := HLA.out.1; omega)
        clear h hx hb hk c0 c1 c2 c3
        by_cases hcy : (n : Int) < (y.length : Int)
        · have hny : n ≤ k8 := by omega
          have HNY : Hid (n < y.length) := Lib.hid (by omega)
          obtain ⟨c0, c1, c2, c3⟩ := cells4 T8.out.2.1
          have HLT : Hid ((y.take n).length ≤ 100000) := Lib.hid (by rw [List.length_take]; have := HLA.out; omega)
          have HRCx : Hid ((Rq.may ⟨f, s, c, vs⟩ && readB ⟨f, s, c, vs⟩ (y.take n)) = false) := Lib.hid (by rw [HMR.out.1, Bool.true_and]; exact HRC.out n HNY.out)
          have BD : Hid (Below w8.heap.size w8 w8.drew) := Lib.hid (Below.refl _ _).drew
          have TD := Lib.hid (T8.out.on BD.out)
          have XD := Lib.hid (X8.out.on BD.out)
          have TA : Hid (Two w (w8.drew.alloc (.cells #[.int .i64 0, .slice none 0 0] 38)) f s c (.slice av vs.length kv) code (.slice ap ps.length kp)) := Lib.hid (TD.out.on (below_new _ _))
          have XA := Lib.hid (XD.out.on (below_new w8.drew (.cells #[.int .i64 0, .slice none 0 0] 38)))
          clear c0 c1 c2 c3
          obtain ⟨c0, c1, c2, c3⟩ := cells4 TD.out.2.1
          obtain ⟨d0, d1, d2, d3⟩ := cells4 TA.out.2.1
          go_wp2_with fail
          go_region_held3 (fun w' => w'.cell? ⟨w.heap.size, 0, none⟩ = some (.int .i64 f) ∧ w'.cell? ⟨w.heap.size, 1, none⟩ = some (.int .i64 s) ∧ w'.cell? ⟨w.heap.size, 2, none⟩ = some (.int .i64 c) ∧ w'.cell? ⟨w.heap.size, 3, none⟩ = some (.slice av vs.length kv))
            (first
              | exact ⟨c0, c1, c2, c3⟩
              | exact ⟨d0, d1, d2, d3⟩
              | exact ⟨e0, e1, e2, e3⟩
              | exact ⟨h0', h1', h2', h3'⟩
              | exact ⟨i0, i1, i2, i3⟩
              | go_keep)
            ((go_at_call 18; first | (refine (read_no ⟨f, s, c, vs⟩ _ _ (y.take n) w8.drew (HV.out.on TD.out.1) (bytes_take XD.out (Nat.le_of_lt HNY.out)) HL.out.1 HLT.out HRCx.out).mono ?_; intro e w9 h; obtain ⟨b9, rfl, hb9⟩ := h.form; have BW : Hid (Below w8.heap.size w8 w9) := Lib.hid (bel_call BD.out hb9); obtain ⟨e0, e1, e2, e3⟩ := cells4 (T8.out.on BW.out).2.1; obtain ⟨h0', h1', h2', h3'⟩ := cells4 (T8.out.on ((BW.out.setCell (p := ⟨w8.heap.size, 0, none⟩) (Nat.le_refl _) (.int .i64 0)).setCell (p := ⟨w8.heap.size, 1, none⟩) (Nat.le_refl _) (.slice none 0 0))).2.1; obtain ⟨i0, i1, i2, i3⟩ := cells4 (T8.out.on (BW.out.alloc BW.out.size (.cells #[.int .i64 0, .slice none 0 0] 38))).2.1; clear h hb9; unfold Rp.zero; simp only []) | (refine (read_no ⟨f, s, c, vs⟩ _ _ (y.take n) (w8.drew.alloc (.cells #[.int .i64 0, .slice none 0 0] 38)) (HV.out.on TA.out.1) (bytes_take XA.out (Nat.le_of_lt HNY.out)) HL.out.1 HLT.out HRCx.out).mono ?_; intro e w9 h; obtain ⟨b9, rfl, hb9⟩ := h.form; have BW : Hid (Below w8.heap.size w8 w9) := Lib.hid (bel_call (bel BD.out (.cells #[.int .i64 0, .slice none 0 0] 38)) hb9); obtain ⟨e0, e1, e2, e3⟩ := cells4 (T8.out.on BW.out).2.1; obtain ⟨h0', h1', h2', h3'⟩ := cells4 (T8.out.on ((BW.out.setCell (p := ⟨w8.heap.size, 0, none⟩) (Nat.le_refl _) (.int .i64 0)).setCell (p := ⟨w8.heap.size, 1, none⟩) (Nat.le_refl _) (.slice none 0 0))).2.1; obtain ⟨i0, i1, i2, i3⟩ := cells4 (T8.out.on (BW.out.alloc BW.out.size (.cells #[.int .i64 0, .slice none 0 0] 38))).2.1; have q9 : BoxP w9 w8.heap.size 0 (.slice none 0 0) := keepcall hb9 (heap_alloc_new w8.drew _); have q9f : ∀ o, w9.frozen? ⟨w8.heap.size, o, none⟩ = false := fun o => frozen_of_row _ _ _ _ _ q9; have m0 := q9f 0; have m1 := q9f 1; obtain ⟨k0, k1⟩ := q9.cells; clear q9 q9f; clear h hb9; unfold Rp.zero; simp only [])))
          all_goals
            first
              | (obtain ⟨W, hW⟩ : ∃ W, W = w9.alloc (.cells #[.int .i64 0, .slice none 0 0] 38) := ⟨_, rfl⟩
                 have BZ : Hid (Below w8.heap.size w8 W) := Lib.hid (by rw [hW]; exact BW.out.alloc BW.out.size _)
                 rw [← hW]
                 clear hW)
              | (obtain ⟨W, hW⟩ : ∃ W, W = (w9.setCell ⟨w8.heap.size, 0, none⟩ (.int .i64 0)).setCell ⟨w8.heap.size, 1, none⟩ (.slice none 0 0) := ⟨_, rfl⟩
                 have BZ : Hid (Below w8.heap.size w8 W) := Lib.hid (by rw [hW]; exact (BW.out.setCell (p := ⟨w8.heap.size, 0, none⟩) (Nat.le_refl _) (.int .i64 0)).setCell (p := ⟨w8.heap.size, 1, none⟩) (Nat.le_refl _) (.slice none 0 0))
                 rw [← hW]
                 clear hW)
            clear c0 c1 c2 c3 d0 d1 d2 d3 e0 e1 e2 e3 h0' h1' h2' h3' i0 i1 i2 i3
            try clear m0 m1 k0 k1
            have HLY : Hid (y.length ≤ 1000000) := Lib.hid (by have := HLA.out; omega)
            obtain ⟨yl, hyl⟩ : ∃ n, (y ++ [more]).length = n := ⟨_, rfl⟩
            have HYL := Lib.hid hyl
            clear hyl
            have HLYc : Hid (y.length ≤ 140737488355328) := Lib.hid (by have := HLA.out; omega)
            have HLYr : Hid ((y ++ [more]).length ≤ 100000) := Lib.hid (by rw [List.length_append]; have := HLA.out; show y.length + 1 ≤ 100000; omega)
            have HMRx : Hid ((Rq.may ⟨f, s, c, vs⟩ && readB ⟨f, s, c, vs⟩ (y ++ [more])) = false) := Lib.hid (by rw [HMR.out.1, Bool.true_and]; exact HRM.out)
            have BZD : Hid (Below w8.heap.size w8 W.drew) := Lib.hid BZ.out.drew
            obtain ⟨c0, c1, c2, c3⟩ := cells4 (T8.out.on BZD.out).2.1
            go_wp2_with fail
            go_region_held3 (fun w' => w'.cell? ⟨w.heap.size, 0, none⟩ = some (.int .i64 f) ∧ w'.cell? ⟨w.heap.size, 1, none⟩ = some (.int .i64 s) ∧ w'.cell? ⟨w.heap.size, 2, none⟩ = some (.int .i64 c) ∧ w'.cell? ⟨w.heap.size, 3, none⟩ = some (.slice av vs.length kv))
              (first
                | exact ⟨c0, c1, c2, c3⟩
                | exact ⟨d0, d1, d2, d3⟩
                | exact ⟨e0, e1, e2, e3⟩
                | exact ⟨h0', h1', h2', h3'⟩
                | exact ⟨i0, i1, i2, i3⟩
                | exact ⟨j0, j1, j2, j3⟩
                | (refine cells4 (T8.out.on ?_).2.1; (repeat (first | exact BZD.out | exact C10.out | exact C11.out | refine bel ?_ _)); done)
                | (refine cells4 (T8.out.on ?_).2.1; (repeat (first | exact BZD.out | exact C10.out | exact C11.out | exact BZ.out | refine bel ?_ _ | refine Below.drew ?_)); done)
                | exact cells4 (T8.out.on (bel BZD.out (.cells #[.int .u8 (more.toNat : Int)] 5))).2.1
                | exact cells4 (T8.out.on (bel (bel BZD.out (.cells #[.int .u8 (more.toNat : Int)] 5)) (.cells #[.int .i64 0, .slice none 0 0] 38))).2.1
                | exact cells4 (T8.out.on (bel (bel BZD.out (.cells #[.int .i64 0, .slice none 0 0] 38)) (.cells #[.int .u8 (more.toNat : Int)] 5))).2.1
                | go_keep)
              (first
                | (go_at_call 20; first | (refine (copy_any _ y W.drew (X8.out.on BZD.out) HLYc.out).mono ?_; rintro e w10 ⟨v10, rfl, ho10, hb10⟩; have C10 : Hid (Below w8.heap.size w8 w10) := Lib.hid (bel_call BZD.out hb10); have O10 : Hid (w10.ownsRow w8.heap.size 5 1 v10 y.length (bcells y)) := Lib.hid (ownsRow_base ho10 BZD.out.size); obtain ⟨a10, k10, rfl⟩ := row_slice ho10; obtain ⟨d0, d1, d2, d3⟩ := cells4 (T8.out.on C10.out).2.1; clear ho10 hb10; simp only []) | (refine (copy_any _ y (W.drew.alloc (.cells #[.int .u8 (more.toNat : Int)] 5)) (X8.out.on (bel BZD.out (.cells #[.int .u8 (more.toNat : Int)] 5))) HLYc.out).mono ?_; rintro e w10 ⟨v10, rfl, ho10, hb10⟩; have C10 : Hid (Below w8.heap.size w8 w10) := Lib.hid (bel_call (bel BZD.out (.cells #[.int .u8 (more.toNat : Int)] 5)) hb10); have O10 : Hid (w10.ownsRow w8.heap.size 5 1 v10 y.length (bcells y)) := Lib.hid (ownsRow_base ho10 (bel BZD.out (.cells #[.int .u8 (more.toNat : Int)] 5)).size); obtain ⟨a10, k10, rfl⟩ := row_slice ho10; have L10a : w10.heap[W.heap.size]? = some (.cells #[.int .u8 (more.toNat : Int)] 5 (0, 0)) := keepcall hb10 (heap_alloc_new W.drew _); obtain ⟨d0, d1, d2, d3⟩ := cells4 (T8.out.on C10.out).2.1; clear ho10 hb10; simp only []) | (refine (copy_any _ y (W.drew.alloc (.cells #[.int .i64 0, .slice none 0 0] 38)) (X8.out.on (bel BZD.out (.cells #[.int .i64 0, .slice none 0 0] 38))) HLYc.out).mono ?_; rintro e w10 ⟨v10, rfl, ho10, hb10⟩; have C10 : Hid (Below w8.heap.size w8 w10) := Lib.hid (bel_call (bel BZD.out (.cells #[.int .i64 0, .slice none 0 0] 38)) hb10); have O10 : Hid (w10.ownsRow w8.heap.size 5 1 v10 y.length (bcells y)) := Lib.hid (ownsRow_base ho10 (bel BZD.out (.cells #[.int .i64 0, .slice none 0 0] 38)).size); obtain ⟨a10, k10, rfl⟩ := row_slice ho10; have K10a : w10.heap[W.heap.size]? = some (.cells #[.int .i64 0, .slice none 0 0] 38 (0, 0)) := keepcall hb10 (heap_alloc_new W.drew _); obtain ⟨d0, d1, d2, d3⟩ := cells4 (T8.out.on C10.out).2.1; clear ho10 hb10; simp only []) | (refine (copy_any _ y ((W.drew.alloc (.cells #[.int .u8 (more.toNat : Int)] 5)).alloc (.cells #[.int .i64 0, .slice none 0 0] 38)) (X8.out.on (bel (bel BZD.out (.cells #[.int .u8 (more.toNat : Int)] 5)) (.cells #[.int .i64 0, .slice none 0 0] 38))) HLYc.out).mono ?_; rintro e w10 ⟨v10, rfl, ho10, hb10⟩; have C10 : Hid (Below w8.heap.size w8 w10) := Lib.hid (bel_call (bel (bel BZD.out (.cells #[.int .u8 (more.toNat : Int)] 5)) (.cells #[.int .i64 0, .slice none 0 0] 38)) hb10); have O10 : Hid (w10.ownsRow w8.heap.size 5 1 v10 y.length (bcells y)) := Lib.hid (ownsRow_base ho10 (bel (bel BZD.out (.cells #[.int .u8 (more.toNat : Int)] 5)) (.cells #[.int .i64 0, .slice none 0 0] 38)).size); obtain ⟨a10, k10, rfl⟩ := row_slice ho10; have L10a : w10.heap[W.heap.size]? = some (.cells #[.int .u8 (more.toNat : Int)] 5 (0, 0)) := keepcall hb10 (keepblk (heap_alloc_new W.drew _) _); have K10b : w10.heap[W.heap.size + 1]? = some (.cells #[.int .i64 0, .slice none 0 0] 38 (0, 0)) := keepcall hb10 (keepnew W.drew _ _); obtain ⟨d0, d1, d2, d3⟩ := cells4 (T8.out.on C10.out).2.1; clear ho10 hb10; simp only []) | (refine (copy_any _ y ((W.drew.alloc (.cells #[.int .i64 0, .slice none 0 0] 38)).alloc (.cells #[.int .u8 (more.toNat : Int)] 5)) (X8.out.on (bel (bel BZD.out (.cells #[.int .i64 0, .slice none 0 0] 38)) (.cells #[.int .u8 (more.toNat : Int)] 5))) HLYc.out).mono ?_; rintro e w10 ⟨v10, rfl, ho10, hb10⟩; have C10 : Hid (Below w8.heap.size w8 w10) := Lib.hid (bel_call (bel (bel BZD.out (.cells #[.int .i64 0, .slice none 0 0] 38)) (.cells #[.int .u8 (more.toNat : Int)] 5)) hb10); have O10 : Hid (w10.ownsRow w8.heap.size 5 1 v10 y.length (bcells y)) := Lib.hid (ownsRow_base ho10 (bel (bel BZD.out (.cells #[.int .i64 0, .slice none 0 0] 38)) (.cells #[.int .u8 (more.toNat : Int)] 5)).size); obtain ⟨a10, k10, rfl⟩ := row_slice ho10; have K10a : w10.heap[W.heap.size]? = some (.cells #[.int .i64 0, .slice none 0 0] 38 (0, 0)) := keepcall hb10 (keepblk (heap_alloc_new W.drew _) _); have L10b : w10.heap[W.heap.size + 1]? = some (.cells #[.int .u8 (more.toNat : Int)] 5 (0, 0)) := keepcall hb10 (keepnew W.drew _ _); obtain ⟨d0, d1, d2, d3⟩ := cells4 (T8.out.on C10.out).2.1; clear ho10 hb10; simp only []))
                | (first | (refine step_app_byte rfl (.tmp 102) (.tmp 104) rfl rfl w8.heap.size y more (.slice a10 y.length k10) (w10.heap.size) rfl rfl (own_al O10.out _) (heap_alloc_new _ _) ((bel C10.out _).size) HLY.out ?_; intro v11 w11 ho11 hk11; have C11 : Hid (Below w8.heap.size w8 w11) := Lib.hid (Below.trans (bel C10.out _) (hk11.below ((bel C10.out _).size) (fun k hk => (O10.out.lt k hk).1))); (try (have K11a : w11.heap[W.heap.size]? = some (.cells #[.int .i64 0, .slice none 0 0] 38 (0, 0)) := keepapp hk11 (own_al O10.out _) (keepblk K10a _))); rw [HYL.out] at ho11; obtain ⟨a11, k11, rfl⟩ := row_slice ho11; have X11 := Lib.hid (bytesAt_own' ho11 HYL.out); obtain ⟨e0, e1, e2, e3⟩ := cells4 (T8.out.on C11.out).2.1; clear ho11 hk11) | (refine step_app_byte rfl (.tmp 102) (.tmp 104) rfl rfl w8.heap.size y more (.slice a10 y.length k10) (w10.heap.size) rfl rfl (own_al (own_al O10.out _) _) (keepblk (heap_alloc_new _ _) _) ((bel (bel C10.out _) _).size) HLY.out ?_; intro v11 w11 ho11 hk11; have C11 : Hid (Below w8.heap.size w8 w11) := Lib.hid (Below.trans (bel (bel C10.out _) _) (hk11.below ((bel (bel C10.out _) _).size) (fun k hk => (O10.out.lt k hk).1))); (try (have K11d : w11.heap[w10.heap.size + 1]? = some (.cells #[.int .i64 0, .slice none 0 0] 38 (0, 0)) := keepapp hk11 (own_al (own_al O10.out _) _) (keepnew _ _ _))); rw [HYL.out] at ho11; obtain ⟨a11, k11, rfl⟩ := row_slice ho11; have X11 := Lib.hid (bytesAt_own' ho11 HYL.out); obtain ⟨e0, e1, e2, e3⟩ := cells4 (T8.out.on C11.out).2.1; clear ho11 hk11) | (refine step_app_byte rfl (.tmp 102) (.tmp 104) rfl rfl w8.heap.size y more (.slice a10 y.length k10) (w10.heap.size + 1) rfl rfl (own_al (own_al O10.out _) _) (keepnew _ _ _) ((bel (bel C10.out _) _).size) HLY.out ?_; intro v11 w11 ho11 hk11; have C11 : Hid (Below w8.heap.size w8 w11) := Lib.hid (Below.trans (bel (bel C10.out _) _) (hk11.below ((bel (bel C10.out _) _).size) (fun k hk => (O10.out.lt k hk).1))); (try (have K11c : w11.heap[w10.heap.size]? = some (.cells #[.int .i64 0, .slice none 0 0] 38 (0, 0)) := keepapp hk11 (own_al (own_al O10.out _) _) (keepblk (heap_alloc_new _ _) _))); rw [HYL.out] at ho11; obtain ⟨a11, k11, rfl⟩ := row_slice ho11; have X11 := Lib.hid (bytesAt_own' ho11 HYL.out); obtain ⟨e0, e1, e2, e3⟩ := cells4 (T8.out.on C11.out).2.1; clear ho11 hk11) | (refine step_app_byte rfl (.tmp 102) (.tmp 104) rfl rfl w8.heap.size y more (.slice a10 y.length k10) (W.heap.size) rfl rfl (O10.out) (L10a) (C10.out.size) HLY.out ?_; intro v11 w11 ho11 hk11; have C11 : Hid (Below w8.heap.size w8 w11) := Lib.hid (Below.trans (C10.out) (hk11.below (C10.out.size) (fun k hk => (O10.out.lt k hk).1))); (try (have K11b : w11.heap[W.heap.size + 1]? = some (.cells #[.int .i64 0, .slice none 0 0] 38 (0, 0)) := keepapp hk11 (O10.out) K10b)); rw [HYL.out] at ho11; obtain ⟨a11, k11, rfl⟩ := row_slice ho11; have X11 := Lib.hid (bytesAt_own' ho11 HYL.out); obtain ⟨e0, e1, e2, e3⟩ := cells4 (T8.out.on C11.out).2.1; clear ho11 hk11) | (refine step_app_byte rfl (.tmp 102) (.tmp 104) rfl rfl w8.heap.size y more (.slice a10 y.length k10) (W.heap.size) rfl rfl (own_al O10.out _) (keepblk L10a _) ((bel C10.out _).size) HLY.out ?_; intro v11 w11 ho11 hk11; have C11 : Hid (Below w8.heap.size w8 w11) := Lib.hid (Below.trans (bel C10.out _) (hk11.below ((bel C10.out _).size) (fun k hk => (O10.out.lt k hk).1))); (try (have K11c : w11.heap[w10.heap.size]? = some (.cells #[.int .i64 0, .slice none 0 0] 38 (0, 0)) := keepapp hk11 (own_al O10.out _) (heap_alloc_new _ _))); rw [HYL.out] at ho11; obtain ⟨a11, k11, rfl⟩ := row_slice ho11; have X11 := Lib.hid (bytesAt_own' ho11 HYL.out); obtain ⟨e0, e1, e2, e3⟩ := cells4 (T8.out.on C11.out).2.1; clear ho11 hk11) | (refine step_app_byte rfl (.tmp 102) (.tmp 104) rfl rfl w8.heap.size y more (.slice a10 y.length k10) (W.heap.size + 1) rfl rfl (O10.out) (L10b) (C10.out.size) HLY.out ?_; intro v11 w11 ho11 hk11; have C11 : Hid (Below w8.heap.size w8 w11) := Lib.hid (Below.trans (C10.out) (hk11.below (C10.out.size) (fun k hk => (O10.out.lt k hk).1))); (try (have K11a : w11.heap[W.heap.size]? = some (.cells #[.int .i64 0, .slice none 0 0] 38 (0, 0)) := keepapp hk11 (O10.out) K10a)); rw [HYL.out] at ho11; obtain ⟨a11, k11, rfl⟩ := row_slice ho11; have X11 := Lib.hid (bytesAt_own' ho11 HYL.out); obtain ⟨e0, e1, e2, e3⟩ := cells4 (T8.out.on C11.out).2.1; clear ho11 hk11))
                | (go_at_call 18; first | (refine (read_no ⟨f, s, c, vs⟩ _ _ (y ++ [more]) w11 (HV.out.on (T8.out.on C11.out).1) X11.out HL.out.1 HLYr.out HMRx.out).mono ?_; intro e w12 h; obtain ⟨b12, rfl, hb12⟩ := h.form; have C12 : Hid (Below w8.heap.size w8 w12) := Lib.hid (bel_call C11.out hb12); obtain ⟨h0', h1', h2', h3'⟩ := cells4 (T8.out.on C12.out).2.1; obtain ⟨i0, i1, i2, i3⟩ := cells4 (T8.out.on (bel C12.out (.cells #[.int .i64 0, .slice none 0 0] 38))).2.1; (first | (have Q12a : BoxP w12 (W.heap.size) 0 (.slice none 0 0) := keepcall hb12 K11a; have Q12af : ∀ o, w12.frozen? ⟨W.heap.size, o, none⟩ = false := fun o => frozen_of_row _ _ _ _ _ Q12a; have Q12a0 := Q12af 0; have Q12a1 := Q12af 1; obtain ⟨Q12a2, Q12a3⟩ := Q12a.cells; have Q12al : w8.heap.size ≤ W.heap.size := BZ.out.size; have ST : Hid (Below w8.heap.size w8 ((w12.setCell ⟨W.heap.size, 0, none⟩ (.int .i64 0)).setCell ⟨W.heap.size, 1, none⟩ (.slice none 0 0))) := Lib.hid ((C12.out.setCell (p := ⟨W.heap.size, 0, none⟩) Q12al (.int .i64 0)).setCell (p := ⟨W.heap.size, 1, none⟩) Q12al (.slice none 0 0)); obtain ⟨j0, j1, j2, j3⟩ := cells4 (T8.out.on ST.out).2.1; clear Q12a Q12af Q12al) | (have Q12b : BoxP w12 (W.heap.size + 1) 0 (.slice none 0 0) := keepcall hb12 K11b; have Q12bf : ∀ o, w12.frozen? ⟨W.heap.size + 1, o, none⟩ = false := fun o => frozen_of_row _ _ _ _ _ Q12b; have Q12b0 := Q12bf 0; have Q12b1 := Q12bf 1; obtain ⟨Q12b2, Q12b3⟩ := Q12b.cells; have Q12bl : w8.heap.size ≤ W.heap.size + 1 := Nat.le_succ_of_le BZ.out.size; have ST : Hid (Below w8.heap.size w8 ((w12.setCell ⟨W.heap.size + 1, 0, none⟩ (.int .i64 0)).setCell ⟨W.heap.size + 1, 1, none⟩ (.slice none 0 0))) := Lib.hid ((C12.out.setCell (p := ⟨W.heap.size + 1, 0, none⟩) Q12bl (.int .i64 0)).setCell (p := ⟨W.heap.size + 1, 1, none⟩) Q12bl (.slice none 0 0)); obtain ⟨j0, j1, j2, j3⟩ := cells4 (T8.out.on ST.out).2.1; clear Q12b Q12bf Q12bl) | (have Q12c : BoxP w12 (w10.heap.size) 0 (.slice none 0 0) := keepcall hb12 K11c; have Q12cf : ∀ o, w12.frozen? ⟨w10.heap.size, o, none⟩ = false := fun o => frozen_of_row _ _ _ _ _ Q12c; have Q12c0 := Q12cf 0; have Q12c1 := Q12cf 1; obtain ⟨Q12c2, Q12c3⟩ := Q12c.cells; have Q12cl : w8.heap.size ≤ w10.heap.size := C10.out.size; have ST : Hid (Below w8.heap.size w8 ((w12.setCell ⟨w10.heap.size, 0, none⟩ (.int .i64 0)).setCell ⟨w10.heap.size, 1, none⟩ (.slice none 0 0))) := Lib.hid ((C12.out.setCell (p := ⟨w10.heap.size, 0, none⟩) Q12cl (.int .i64 0)).setCell (p := ⟨w10.heap.size, 1, none⟩) Q12cl (.slice none 0 0)); obtain ⟨j0, j1, j2, j3⟩ := cells4 (T8.out.on ST.out).2.1; clear Q12c Q12cf Q12cl) | (have Q12d : BoxP w12 (w10.heap.size + 1) 0 (.slice none 0 0) := keepcall hb12 K11d; have Q12df : ∀ o, w12.frozen? ⟨w10.heap.size + 1, o, none⟩ = false := fun o => frozen_of_row _ _ _ _ _ Q12d; have Q12d0 := Q12df 0; have Q12d1 := Q12df 1; obtain ⟨Q12d2, Q12d3⟩ := Q12d.cells; have Q12dl : w8.heap.size ≤ w10.heap.size + 1 := Nat.le_succ_of_le C10.out.size; have ST : Hid (Below w8.heap.size w8 ((w12.setCell ⟨w10.heap.size + 1, 0, none⟩ (.int .i64 0)).setCell ⟨w10.heap.size + 1, 1, none⟩ (.slice none 0 0))) := Lib.hid ((C12.out.setCell (p := ⟨w10.heap.size + 1, 0, none⟩) Q12dl (.int .i64 0)).setCell (p := ⟨w10.heap.size + 1, 1, none⟩) Q12dl (.slice none 0 0)); obtain ⟨j0, j1, j2, j3⟩ := cells4 (T8.out.on ST.out).2.1; clear Q12d Q12df Q12dl) | skip); clear h hb12; unfold Rp.zero; simp only []) | (refine (read_no ⟨f, s, c, vs⟩ _ _ (y ++ [more]) (w11.alloc (.cells #[.int .i64 0, .slice none 0 0] 38)) (HV.out.on (T8.out.on (bel C11.out (.cells #[.int .i64 0, .slice none 0 0] 38))).1) (X11.out.on (below_new w11 (.cells #[.int .i64 0, .slice none 0 0] 38))) HL.out.1 HLYr.out HMRx.out).mono ?_; intro e w12 h; obtain ⟨b12, rfl, hb12⟩ := h.form; have C12 : Hid (Below w8.heap.size w8 w12) := Lib.hid (bel_call (bel C11.out (.cells #[.int .i64 0, .slice none 0 0] 38)) hb12); obtain ⟨h0', h1', h2', h3'⟩ := cells4 (T8.out.on C12.out).2.1; obtain ⟨i0, i1, i2, i3⟩ := cells4 (T8.out.on (bel C12.out (.cells #[.int .i64 0, .slice none 0 0] 38))).2.1; ((have Q12e : BoxP w12 (w11.heap.size) 0 (.slice none 0 0) := keepcall hb12 (heap_alloc_new w11 _); have Q12ef : ∀ o, w12.frozen? ⟨w11.heap.size, o, none⟩ = false := fun o => frozen_of_row _ _ _ _ _ Q12e; have Q12e0 := Q12ef 0; have Q12e1 := Q12ef 1; obtain ⟨Q12e2, Q12e3⟩ := Q12e.cells; have Q12el : w8.heap.size ≤ w11.heap.size := C11.out.size; have ST : Hid (Below w8.heap.size w8 ((w12.setCell ⟨w11.heap.size, 0, none⟩ (.int .i64 0)).setCell ⟨w11.heap.size, 1, none⟩ (.slice none 0 0))) := Lib.hid ((C12.out.setCell (p := ⟨w11.heap.size, 0, none⟩) Q12el (.int .i64 0)).setCell (p := ⟨w11.heap.size, 1, none⟩) Q12el (.slice none 0 0)); obtain ⟨j0, j1, j2, j3⟩ := cells4 (T8.out.on ST.out).2.1; clear Q12e Q12ef Q12el)); clear h hb12; unfold Rp.zero; simp only [])))
            all_goals
              clear c0 c1 c2 c3 d0 d1 d2 d3 e0 e1 e2 e3 h0' h1' h2' h3' i0 i1 i2 i3
              go_wp2_with fail
              first
                | refine (quit _ (T8.out.on ST.out).1).out.mono ?_
                | refine (quit _ (T8.out.on (bel C12.out _)).1).out.mono ?_
              rintro e wq ⟨rfl, hb⟩
              have HB := Lib.hid hb
              clear hb
              go_wp2
              go_ret
              exact ⟨rfl, HB.out⟩
        · have hcy' : (y.length : Int) ≤ (n : Int) := by omega
          clear hcy
          go_wp2_with fail
          refine (quit _ T8.out.1).out.mono ?_
          rintro e wq ⟨rfl, hb⟩
          have HB := Lib.hid hb
          clear hb
          go_wp2
          go_ret
          exact ⟨rfl, HB.out⟩
      · have HMR := Lib.hid hmr
        clear hmr
        refine (ans_no ⟨f, s, c, vs⟩ ⟨code, ps⟩ _ _ _ (HV.out.on T2.out.1) (HP.out.on T2.out.1) HMR.out HL.out.1 HL.out.2).mono ?_
        intro e w8 h
        obtain ⟨b8, rfl, hb⟩ := h.form
        have T8 := Lib.hid (T2.out.on hb)
        clear h hb c0 c1 c2 c3
        go_wp2_with fail
        refine (quit _ T8.out.1).out.mono ?_
        rintro e wq ⟨rfl, hb⟩
        have HB := Lib.hid hb
        clear hb
        go_wp2
        go_ret
        exact ⟨rfl, HB.out⟩
end Go.Proofs.Ytaebbfdgchamaaa
