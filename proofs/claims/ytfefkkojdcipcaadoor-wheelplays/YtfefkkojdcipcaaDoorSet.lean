/- wheel.Cancel and wheel.Set in memory, for every Wheel. -/
import Derived.Test.YtfefkkojdcipcaaDoorAsk
import Derived.Test.YtfefkkojdcipcaaDoorIns
namespace Go.Proofs.YtfefkkojdcipcaaDoor
open Go.RowKit Go.Extern.Stop Go.Stop Go.Extern

theorem WhAt.row {w w1 : World} {B p : Nat} {now : Int} {v v' : Value} {ts ts' : List (Int × Int)} (h : WhAt w B p now v ts) (ho : w1.ownsRow B 70 2 v' ts'.length (tcells ts')) (hk : Off (fun k => v.ownBlock = some k) w w1) (hb : ∀ k, v'.ownBlock = some k → v.ownBlock = some k ∨ w.heap.size ≤ k) :
    Turned w B p v now ts' (w1.setCell ⟨p, 1, none⟩ v') := by
  have hp : w1.heap[p]? = some (.cells #[.int .i64 now, v] 61 (0, 0)) := (hk.block p h.lt h.ne).trans h.obj
  refine ⟨v', ⟨h.base, by rw [heap_set _ _ _ _ _ _ _ hp]; rfl, ?_⟩, ?_, hb⟩
  · exact ownsRow_off ho (Off.set (fun k => k = p) w1 ⟨p, 1, none⟩ _ rfl) (fun k e s => row_no ho hp (by decide) (by rw [e, s]))
  · exact (hk.mono (fun k _ s => .inr s)).trans (Off.set _ _ ⟨p, 1, none⟩ _ (.inl rfl))
/-- .. the facts for the store. -/
theorem WhAt.row_store {w w1 : World} {B p : Nat} {now : Int} {v : Value} {ts : List (Int × Int)} (h : WhAt w B p now v ts) (hk : Off (fun k => v.ownBlock = some k) w w1) : w1.cell? ⟨p, 1, none⟩ = some v ∧ w1.frozen? ⟨p, 1, none⟩ = false := by
  have hp : w1.heap[p]? = some (.cells #[.int .i64 now, v] 61 (0, 0)) := (hk.block p h.lt h.ne).trans h.obj
  exact ⟨by rw [cell_of_row _ _ _ _ _ _ hp]; rfl, frozen_of_row _ _ _ _ _ hp⟩
theorem Turned.pre {w w0 w' : World} {B p : Nat} {v : Value} {now' : Int} {ts' : List (Int × Int)} (hb : Below w.heap.size w w0) (ht : Turned w0 B p v now' ts' w') : Turned w B p v now' ts' w' := by
  obtain ⟨v', h1, h2, h3⟩ := ht
  refine ⟨v', h1, (Off.of_below _ hb).trans h2, fun k hk => ?_⟩
  rcases h3 k hk with h | h
  · exact .inl h
  · exact .inr (Nat.le_trans hb.size h)
theorem Turned.trans {w w1 w2 : World} {B p : Nat} {v v1 : Value} {now2 : Int} {ts2 : List (Int × Int)} (ho : Off (Wrote p v) w w1) (hn : ∀ k, v1.ownBlock = some k → v.ownBlock = some k ∨ w.heap.size ≤ k) (ht : Turned w1 B p v1 now2 ts2 w2) : Turned w B p v now2 ts2 w2 := by
  obtain ⟨v', h1, h2, h3⟩ := ht
  refine ⟨v', h1, ⟨h2.os.trans ho.os, h2.tape.trans ho.tape, h2.output.trans ho.output, Nat.le_trans ho.size h2.size, fun k hk hs => ?_⟩, fun k hk => ?_⟩
  · refine (h2.block k (Nat.lt_of_lt_of_le hk ho.size) fun s => ?_).trans (ho.block k hk hs)
    rcases s with rfl | s
    · exact hs (.inl rfl)
    · rcases hn k s with s | s
      · exact hs (.inr s)
      · omega
  · rcases h3 k hk with h | h
    · exact hn k h
    · exact .inr (Nat.le_trans ho.size h)

theorem row_slice {w : World} {B : Nat} {e : TypeId} {size : Nat} {v : Value} {n : Nat} {xs : List Value} (h : w.ownsRow B e size v n xs) : ∃ ao cap, v = .slice ao n cap := by
  rcases h.2 with ⟨hv, h0⟩ | ⟨g, cap, cur, hv, _⟩
  · exact ⟨none, 0, by rw [hv, h0]⟩
  · exact ⟨_, cap, hv⟩
theorem cast_succ (j : Nat) : ((j + 1 : Nat) : Int) = (j : Int) + 1 := by omega

set_option maxRecDepth 100000 in
set_option maxHeartbeats 4000000 in
theorem cancel_any (B p : Nat) (now : Int) (v : Value) (ts : List (Int × Int)) (id : Int) (w : World) (h : WhAt w B p now v ts) (hl : ts.length ≤ 100000) :
    Calls Tryd.prog 14 #[.pointer (some ⟨p, 0, none⟩), .int .i64 id] w fun e w' => e = .returned (.bool (atT ts id).isSome) ∧ Turned w B p v now (eraseT ts id) w' := by
  have H := Lib.hid h
  have HF := Lib.hid (find_any B p now v ts id w h hl)
  rcases find_cases ts id 0 with ⟨h1, h2, h3⟩ | ⟨j, hj, h1, h2, h3⟩
  · rw [h1] at HF
    rw [h2, h3]
    clear h hl h1 h2 h3
    go_enter Tryd.func14, Tryd.ntmps14
    go_wp2_with fail
    refine HF.out.mono ?_
    rintro e w' ⟨rfl, hb⟩
    have HB := Lib.hid hb
    clear hb
    go_wp2
    go_ret
    exact ⟨rfl, Turned.pre HB.out ⟨v, H.out.on HB.out, Off.refl _ _, fun k hk => .inl hk⟩⟩
  · rw [h1, Nat.zero_add] at HF
    rw [h2, h3]
    have HJ := Lib.hid hj
    have HL := Lib.hid hl
    clear h hl h1 h2 h3
    go_enter Tryd.func14, Tryd.ntmps14
    go_wp2_with fail
    refine HF.out.mono ?_
    rintro e w1 ⟨rfl, hb⟩
    have HB := Lib.hid hb
    have c1 := (H.out.on hb).c1
    have HD := Lib.hid (delete_any B v ts j (j + 1) w1 (H.out.on hb).own (by omega) (by have := HJ.out; omega))
    have hw : wrap64 ((j : Int) + 1) = ((j + 1 : Nat) : Int) := by unfold wrap64; have := HJ.out; have := HL.out; omega
    obtain ⟨ao, cap, rfl, _, _, hcell⟩ := (H.out.on hb).form
    have hj0 : (0 : Int) ≤ (j : Int) := by omega
    clear hb hcell
    go_wp2_with fail
    rw [cast_succ] at HD
    refine HD.out.mono ?_
    rintro e w2 ⟨v', rfl, ho, hq, hk⟩
    obtain ⟨s1, s2⟩ := (H.out.on HB.out).row_store hk
    have HR := Lib.hid ((H.out.on HB.out).row ho hk (fun k e => .inl (hq ▸ e)))
    obtain ⟨ao', cap', rfl⟩ := row_slice ho
    clear ho hq hk c1
    generalize (ts.take j ++ ts.drop (j + 1)).length = m at *
    go_wp2
    go_ret
    exact ⟨rfl, Turned.pre HB.out HR.out⟩

/-- Where a timer goes. -/
def insT (ts : List (Int × Int)) (x : Int × Int) : List (Int × Int) := ts.takeWhile (fun t => beforeT t x) ++ x :: ts.dropWhile (fun t => beforeT t x)
/-- The timers behind Set. -/
def setT (now : Int) (ts : List (Int × Int)) (id after : Int) : List (Int × Int) := insT (eraseT ts id) (id, laterT now after)
theorem eraseT_length : ∀ (l : List (Int × Int)) (id : Int), (eraseT l id).length ≤ l.length
  | [], _ => Nat.le_refl _
  | t :: l, id => by
    unfold eraseT
    split
    · simp
    · simpa using eraseT_length l id

set_option maxRecDepth 100000 in
set_option maxHeartbeats 4000000 in
theorem set_bad (p : Nat) (id after : Int) (w : World) (hbad : ¬ ((0 ≤ id ∧ id ≤ 1000) ∧ 0 ≤ after ∧ after ≤ 1099511627776)) :
    Calls Tryd.prog 12 #[.pointer (some ⟨p, 0, none⟩), .int .i64 id, .int .i64 after] w fun e w' => ∃ x, e = .returned x ∧ WheelErr w' id x ∧ Below w.heap.size w w' := by
  by_cases h0 : 0 ≤ id
  · by_cases h1 : id ≤ 1000
    · have h2 : ¬ (0 ≤ after ∧ after ≤ 1099511627776) := fun x => hbad ⟨⟨h0, h1⟩, x⟩
      have H2 := Lib.hid h2
      clear hbad h2
      go_enter Tryd.func12, Tryd.ntmps12
      go_wp2_with fail
      refine (span_no after H2.out _).mono ?_
      rintro e w1 ⟨rfl, rfl⟩
      go_wp2_with fail
      refine (fault_any _ _).mono ?_
      rintro e w1 ⟨x, rfl, hx, hb⟩
      have HX := Lib.hid (And.intro hx hb)
      clear hx hb
      go_wp2
      go_ret
      exact ⟨_, rfl, HX.out.1, HX.out.2⟩
    · clear hbad
      go_enter Tryd.func12, Tryd.ntmps12
      go_wp2_with fail
      refine (fault_any _ _).mono ?_
      rintro e w1 ⟨x, rfl, hx, hb⟩
      have HX := Lib.hid (And.intro hx hb)
      clear hx hb
      go_wp2
      go_ret
      exact ⟨_, rfl, HX.out.1, HX.out.2⟩
  · clear hbad
    go_enter Tryd.func12, Tryd.ntmps12
    go_wp2_with fail
    refine (fault_any _ _).mono ?_
    rintro e w1 ⟨x, rfl, hx, hb⟩
    have HX := Lib.hid (And.intro hx hb)
    clear hx hb
    go_wp2
    go_ret
    exact ⟨_, rfl, HX.out.1, HX.out.2⟩

theorem WhAt.far {w : World} {B p : Nat} {now : Int} {v : Value} {ts : List (Int × Int)} (h : WhAt w B p now v ts) (k : Nat) (hk : w.heap.size ≤ k) : v.ownBlock ≠ some k := fun e => absurd (h.rlt k e).2 (by omega)
theorem set_end {w W X w4 : World} {B p : Nat} {now : Int} {v v1 v' : Value} {es ts' : List (Int × Int)} (ho1 : Off (Wrote p v) w W) (hn1 : ∀ k, v1.ownBlock = some k → v.ownBlock = some k ∨ w.heap.size ≤ k) (h : WhAt W B p now v1 es) (hb : Below W.heap.size W X) (ho : w4.ownsRow B 70 2 v' ts'.length (tcells ts')) (hk : Off (fun k => v1.ownBlock = some k) X w4) (hn : ∀ k, v'.ownBlock = some k → v1.ownBlock = some k ∨ X.heap.size ≤ k) :
    Turned w B p v now ts' (w4.setCell ⟨p, 1, none⟩ v') :=
  Turned.trans ho1 hn1 (Turned.pre hb ((h.on hb).row ho hk hn))
theorem insT_eq (ts : List (Int × Int)) (x : Int × Int) : insT ts x = ts.take (cnt (fun t => beforeT t x) ts) ++ x :: ts.drop (cnt (fun t => beforeT t x) ts) := by rw [cnt_take, cnt_drop, insT]

set_option maxRecDepth 100000 in
set_option maxHeartbeats 8000000 in
theorem set_ok (B p : Nat) (now : Int) (v : Value) (ts : List (Int × Int)) (id after : Int) (w : World) (h : WhAt w B p now v ts) (hl : ts.length ≤ 90000) (hi0 : 0 ≤ id) (hi1 : id ≤ 1000) (ha0 : 0 ≤ after) (ha1 : after ≤ 1099511627776) (hn0 : 0 ≤ now) (hn1 : now ≤ 1099511627776) (hBw : B ≤ w.heap.size) :
    Calls Tryd.prog 12 #[.pointer (some ⟨p, 0, none⟩), .int .i64 id, .int .i64 after] w fun e w' => e = .returned .nilIface ∧ Turned w B p v now (setT now ts id after) w' := by
  have HE := Lib.hid (insT_eq (eraseT ts id) (id, laterT now after))
  change Calls Tryd.prog 12 #[.pointer (some ⟨p, 0, none⟩), .int .i64 id, .int .i64 after] w fun e w' => e = .returned .nilIface ∧ Turned w B p v now (insT (eraseT ts id) (id, laterT now after)) w'
  generalize insT (eraseT ts id) (id, laterT now after) = T at *
  have HC := Lib.hid (cancel_any B p now v ts id w h (by omega))
  have HL := Lib.hid (Nat.le_trans (eraseT_length ts id) hl)
  have HA := Lib.hid (And.intro ha0 ha1)
  have HN := Lib.hid (And.intro hn0 hn1)
  have HBw := Lib.hid hBw
  clear h hl hBw ha0 ha1 hn0 hn1
  go_enter Tryd.func12, Tryd.ntmps12
  go_wp2_with fail
  refine (span_yes after HA.out.1 HA.out.2 _).mono ?_
  rintro e w1 ⟨rfl, rfl⟩
  go_wp2_with fail
  refine HC.out.mono ?_
  rintro e w1 ⟨rfl, v1, h1, ho1, hn1⟩
  have H1 := Lib.hid h1
  have HO1 := Lib.hid (And.intro ho1 hn1)
  have c0 := h1.c0
  clear h1 ho1 hn1
  go_wp2_with fail
  refine (later_any now after HN.out.1 HN.out.2 HA.out.1 HA.out.2 _).mono ?_
  rintro e w2 ⟨rfl, rfl⟩
  go_wp2_with fail
  have HX : Hid ((w1.alloc (.cells #[.int .i64 id, .int .i64 (laterT now after)] 70)).heap[w1.heap.size]? = some (.cells #[.int .i64 id, .int .i64 (laterT now after)] 70 (0, 0)) ∧ w1.heap.size < (w1.alloc (.cells #[.int .i64 id, .int .i64 (laterT now after)] 70)).heap.size) := Lib.hid ⟨heap_alloc_new w1 _, by simp⟩
  have HB1 : Hid (Below w1.heap.size w1 (w1.alloc (.cells #[.int .i64 id, .int .i64 (laterT now after)] 70))) := Lib.hid ((Below.refl _ _).alloc (Nat.le_refl _) _)
  generalize laterT now after = at' at *
  generalize eraseT ts id = es at *
  generalize w1.alloc (.cells #[.int .i64 id, .int .i64 at'] 70) = W at *
  have HW := Lib.hid (H1.out.on HB1.out)
  have HO := Lib.hid (And.intro (HO1.out.1.trans (Off.of_below _ HB1.out)) HO1.out.2)
  have HBW : Hid (B ≤ W.heap.size) := Lib.hid (Nat.le_trans HBw.out HO.out.1.size)
  have hp : p < W.heap.size := HW.out.lt
  have hxb : w1.heap.size < W.heap.size := HX.out.2
  have hx0 : W.cell? ⟨w1.heap.size, 0, none⟩ = some (.int .i64 id) := by rw [cell_of_row _ _ _ _ _ _ HX.out.1]; rfl
  have hx1 : W.cell? ⟨w1.heap.size, 1, none⟩ = some (.int .i64 at') := by rw [cell_of_row _ _ _ _ _ _ HX.out.1]; rfl
  have c1 := HW.out.c1
  obtain ⟨ao, cap, rfl, _, _, hcs⟩ := HW.out.form
  have HP := Lib.hid hp
  have HXB := Lib.hid hxb
  have HA' : Hid (Below W.heap.size W W.drew) := Lib.hid (Below.refl _ _).drew
  have HB' : Hid (Below W.heap.size W (W.drew.alloc (.cells #[.int .i64 id, .int .i64 at'] 70))) := Lib.hid ((Below.refl _ _).drew.alloc (Nat.le_refl _) _)
  have HCX := Lib.hid (And.intro c1 (And.intro hx0 hx1))
  clear c0 hcs
  generalize w1.heap.size = xb at *
  go_region_law (first
    | (go_simp; go_at_call 32; refine (countBefore_any B p now _ es id at' _ (HW.out.on (by first | exact HA'.out | exact HB'.out)) (by have := HL.out; omega)).mono ?_; rintro e w3 ⟨rfl, hb3⟩; have H3 := Lib.hid hb3; have HB3 : Hid (Below W.heap.size W w3) := (by first | exact Lib.hid (HA'.out.trans hb3) | exact Lib.hid (HB'.out.trans (hb3.mono HB'.out.size))); have q1 : w3.cell? ⟨p, 1, none⟩ = some (.slice ao es.length cap) := (HB3.out.cell (p := ⟨p, 1, none⟩) HP.out).trans HCX.out.1; have hp3 : p < w3.heap.size := Nat.lt_of_lt_of_le HP.out HB3.out.size; have hxb3 : xb < w3.heap.size := Nat.lt_of_lt_of_le HXB.out HB3.out.size; have y0 : w3.cell? ⟨xb, 0, none⟩ = some (.int .i64 id) := (HB3.out.cell (p := ⟨xb, 0, none⟩) HXB.out).trans HCX.out.2.1; have y1 : w3.cell? ⟨xb, 1, none⟩ = some (.int .i64 at') := (HB3.out.cell (p := ⟨xb, 1, none⟩) HXB.out).trans HCX.out.2.2; clear hb3; simp only [])
    | (go_simp; go_at_call 31; refine (insert_any B _ _ es _ id at' _ (HW.out.on (by first | exact HB3.out | exact HB3.out.alloc HB3.out.size _)).own (cnt_le _ _) (by first | exact heap_alloc_new _ _ | exact (H3.out.block _ (by simp)).trans (heap_alloc_new _ _)) (HW.out.far _ (by first | exact Nat.le_refl _ | exact HB3.out.size)) (by have := HL.out; omega) (Nat.le_trans HBW.out (by first | exact HB3.out.size | exact (HB3.out.alloc HB3.out.size _).size))).mono ?_; rintro e w4 ⟨v', rfl, ho, hk, hn⟩; rw [← HE.out] at ho; have HS := Lib.hid ((HW.out.on (by first | exact HB3.out | exact HB3.out.alloc HB3.out.size _)).row_store hk); have s1 := HS.out.1; have s2 := HS.out.2; have HR := Lib.hid (set_end HO.out.1 HO.out.2 HW.out (by first | exact HB3.out | exact HB3.out.alloc HB3.out.size _) ho hk hn); obtain ⟨ao', cap', rfl⟩ := row_slice ho; clear ho hk hn; simp only []))
  all_goals
    clear s1 s2
    go_wp2
    go_ret
    exact ⟨rfl, HR.out⟩
end Go.Proofs.YtfefkkojdcipcaaDoor
