/- rtu.Framer and the document's, block by block: Byte, Tick, Drop. -/
import Derived.Test.YthcehcfeedikkaaDoorFrm2
import Derived.Deep.RegionHeld3
namespace Go.Proofs.YthcehcfeedikkaaDoor
open Go.RowKit Go.Extern.Stop Go.Stop Go.Extern

theorem pcells {w : World} {B b : Nat} {s q : Int} {v : Value} {l : List UInt8} (h : FmAt w B b s q v l) : w.cell? ⟨b, 0, none⟩ = some (.int .i64 s) ∧ w.cell? ⟨b, 1, none⟩ = some (.int .i64 q) ∧ w.cell? ⟨b, 2, none⟩ = some v ∧ (∀ i, w.frozen? ⟨b, i, none⟩ = false) :=
  ⟨by rw [cell_of_row _ _ _ _ _ _ h.obj]; rfl, by rw [cell_of_row _ _ _ _ _ _ h.obj]; rfl, by rw [cell_of_row _ _ _ _ _ _ h.obj]; rfl, fun i => frozen_of_row _ _ _ _ _ h.obj⟩
theorem pquiet {w : World} {B b : Nat} {s q : Int} {v : Value} {l : List UInt8} (h : FmAt w B b s q v l) (z : Int) : FmAt (w.setCell ⟨b, 1, none⟩ (.int .i64 z)) B b s z v l ∧ Off (fun k => k = b) w (w.setCell ⟨b, 1, none⟩ (.int .i64 z)) :=
  ⟨⟨set_obj h.obj rfl, ownsRow_off h.own (Off.set (fun k => k = b) w ⟨b, 1, none⟩ _ rfl) (fun k e s => row_no h.own h.obj (by decide) (by rw [e, s]))⟩, Off.set _ _ ⟨b, 1, none⟩ _ rfl⟩
theorem prow {w : World} {B b : Nat} {s q : Int} {v : Value} {l : List UInt8} (h : FmAt w B b s q v l) {v' : Value} {l' : List UInt8} (ho : w.ownsRow B 5 1 v' l'.length (bcells l')) : FmAt (w.setCell ⟨b, 2, none⟩ v') B b s q v' l' ∧ Off (fun k => k = b) w (w.setCell ⟨b, 2, none⟩ v') :=
  ⟨⟨set_obj h.obj rfl, ownsRow_off ho (Off.set (fun k => k = b) w ⟨b, 2, none⟩ _ rfl) (fun k e s => row_no ho h.obj (by decide) (by rw [e, s]))⟩, Off.set _ _ ⟨b, 2, none⟩ _ rfl⟩

set_option maxRecDepth 100000 in
set_option maxHeartbeats 1000000 in
theorem pbyte (w : World) (B b : Nat) (s q : Int) (v : Value) (l : List UInt8) (x : UInt8) (h : FmAt w B b s q v l) (hB : B ≤ w.heap.size) (hl : l.length ≤ 257) : Calls Tryd.prog 16 #[.pointer (some ⟨b, 0, none⟩), .int .u8 (x.toNat : Int)] w fun e w' => e = .returned (.tuple #[]) ∧ ∃ v', FmAt w' B b s 0 v' (pushB l x) ∧ Off (fun k => k = b ∨ v.ownBlock = some k) w w' ∧ ∀ k, v'.ownBlock = some k → v.ownBlock = some k ∨ w.heap.size ≤ k := by
  obtain ⟨i0, hi0, hz0, hz1, hz2⟩ := info_parts info5
  obtain ⟨c0, c1, c2, fz⟩ := pcells h
  have f1 := fz 1
  have Q := pquiet h 0
  obtain ⟨a, c, rfl⟩ := row_form h.own
  have H := Lib.hid Q.1
  have HO := Lib.hid Q.2
  have HB : Hid (B ≤ w.heap.size) := Lib.hid hB
  clear h Q fz c0 hB
  by_cases hlt : l.length < 257
  · have HP : Hid (pushB l x = l ++ [x]) := Lib.hid (if_pos hlt)
    have hlt' : (l.length : Int) < 257 := by omega
    have HN : Hid (∀ j u, [Value.int .u8 (x.toNat : Int)][j]? = some u → ((w.setCell ⟨b, 1, none⟩ (.int .i64 0)).alloc (.cells #[.int .u8 (x.toNat : Int)] 5)).cell? ((⟨w.heap.size, 0, none⟩ : Addr).add j) = some u) := Lib.hid (World.news_of_block (cs := #[.int .u8 (x.toNat : Int)]) (by have := heap_alloc_new (w.setCell ⟨b, 1, none⟩ (.int .i64 0)) (.cells #[.int .u8 (x.toNat : Int)] 5); simpa using this))
    go_enter Tryd.func16, Tryd.ntmps16
    go_wp2_with (at_builtin; refine wpList_append_lies _ rfl _ _ 22 rfl B 5 i0 _ 1 1 Tryd.underlying22 hi0 hz0 hz1 hz2 rfl (by omega) _ l.length (bcells l) rfl (H.out.own.alloc _) ⟨w.heap.size, 0, none⟩ 1 1 [.int .u8 (x.toNat : Int)] rfl rfl HN.out (by simp [Value.oneCell']) (by omega) (by unfold maxLen; omega) (by omega) (by have := HB.out; simp; omega) (w.heap.size + 1) (by simp) ?_)
    intro g2 c2 w2 ho hg hat hlt
    have hb : b < w.heap.size := by have := lt_heap H.out.obj; simpa [World.setCell] using this
    have ob : w2.heap[b]? = some (.cells #[.int .i64 s, .int .i64 0, .slice a l.length c] 69 (0, 0)) := by
      have hx := (below_new (w.setCell ⟨b, 1, none⟩ (.int .i64 0)) (.cells #[.int .u8 (x.toNat : Int)] 5)).block b (lt_heap H.out.obj)
      refine (hg.block b ?_ (fun e => row_no H.out.own H.out.obj (by decide) e.symm)).trans (hx.trans H.out.obj)
      have := lt_heap H.out.obj
      simp at this ⊢
      omega
    have ho' : w2.ownsRow B 5 1 (.slice (some ⟨g2, 0, none⟩) (l.length + 1) c2) (l ++ [x]).length (bcells (l ++ [x])) := by
      rw [bcells_append, List.length_append]
      exact ho
    have OW : Off (fun k => k = b ∨ (Value.slice a l.length c).ownBlock = some k) w w2 := ((HO.out.mono (fun k _ e => .inl e)).trans (Off.of_below _ (below_new _ _))).trans ((Off.of_grown hg).mono (fun k _ e => .inr e))
    have hF : FmAt w2 B b s 0 (.slice a l.length c) l ∨ True := .inr trivial
    clear hF
    have c2' : w2.cell? ⟨b, 2, none⟩ = some (.slice a l.length c) := by rw [cell_of_row _ _ _ _ _ _ ob]; rfl
    have f2' : w2.frozen? ⟨b, 2, none⟩ = false := frozen_of_row _ _ _ _ _ ob
    have HR : Hid (∃ v', FmAt (w2.setCell ⟨b, 2, none⟩ (.slice (some ⟨g2, 0, none⟩) (l.length + 1) c2)) B b s 0 v' (pushB l x) ∧ Off (fun k => k = b ∨ (Value.slice a l.length c).ownBlock = some k) w (w2.setCell ⟨b, 2, none⟩ (.slice (some ⟨g2, 0, none⟩) (l.length + 1) c2)) ∧ ∀ k, v'.ownBlock = some k → (Value.slice a l.length c).ownBlock = some k ∨ w.heap.size ≤ k) := Lib.hid (by
      rw [HP.out]
      refine ⟨_, ⟨set_obj ob rfl, ownsRow_off ho' (Off.set (fun k => k = b) w2 ⟨b, 2, none⟩ _ rfl) (fun k e s => row_no ho' ob (by decide) (by rw [e, s]))⟩, OW.trans ((Off.set (fun k => k = b) _ ⟨b, 2, none⟩ _ rfl).mono (fun k _ e => .inl e)), fun k hk => ?_⟩
      have e2 : g2 = k := by simpa [Value.ownBlock] using hk
      rw [← e2]
      rcases hat with h | h
      · exact .inl h
      · exact .inr (by omega))
    clear ho hg hat hlt ob OW ho'
    go_wp2
    go_end0
    exact ⟨rfl, HR.out⟩
  · have HP : Hid (pushB l x = l) := Lib.hid (if_neg hlt)
    have hlt' : (257 : Int) ≤ (l.length : Int) := by omega
    go_enter Tryd.func16, Tryd.ntmps16
    go_wp2
    go_end0
    exact ⟨rfl, _, by rw [HP.out]; exact H.out, HO.out.mono (fun k _ e => .inl e), fun k hk => .inl hk⟩

set_option maxRecDepth 100000 in
set_option maxHeartbeats 1000000 in
theorem ptick_none (w : World) (B b : Nat) (s q : Int) (v : Value) (h : FmAt w B b s q v []) : Calls Tryd.prog 18 #[.pointer (some ⟨b, 0, none⟩)] w fun e w' => e = .returned (.tuple #[.slice none 0 0, .bool false]) ∧ w = w' := by
  obtain ⟨_, _, c2, _⟩ := pcells h
  obtain ⟨a, c, rfl⟩ := row_form h.own
  rw [List.length_nil] at c2
  clear h
  go_enter Tryd.func18, Tryd.ntmps18
  go_wp2
  go_ret2
  exact ⟨rfl, rfl⟩
set_option maxRecDepth 100000 in
set_option maxHeartbeats 1000000 in
theorem ptick_more (w : World) (B b q : Nat) (s : Int) (v : Value) (l : List UInt8) (h : FmAt w B b s q v l) (hl : 0 < l.length) (hq : q ≤ 1000) (hs : (q : Int) + 1 < s) : Calls Tryd.prog 18 #[.pointer (some ⟨b, 0, none⟩)] w fun e w' => e = .returned (.tuple #[.slice none 0 0, .bool false]) ∧ FmAt w' B b s ((q + 1 : Nat) : Int) v l ∧ Off (fun k => k = b) w w' := by
  obtain ⟨c0, c1, c2, fz⟩ := pcells h
  have f1 := fz 1
  have HR := Lib.hid (pquiet h ((q : Int) + 1))
  obtain ⟨a, c, rfl⟩ := row_form h.own
  have hne : ((l.length : Int) == 0) = false := beq_eq_false_iff_ne.2 (by omega)
  clear h fz
  go_enter Tryd.func18, Tryd.ntmps18
  go_wp2_with fail
  go_quiet (fail)
  generalize hw2 : (w.setCell ⟨b, 1, none⟩ (.int .i64 ((q : Int) + 1))).drewN nq = w2
  have HR2 : Hid (FmAt w2 B b s ((q + 1 : Nat) : Int) (.slice a l.length c) l ∧ Off (fun k => k = b) w w2) := Lib.hid (by
    rw [← hw2]
    exact ⟨HR.out.1.off (Off.of_below (fun _ => False) (below_drew _ nq)) (fun f => f) (fun _ _ f => f), HR.out.2.trans (Off.of_below _ (below_drew _ nq))⟩)
  clear hw2
  go_wp2
  go_ret2
  exact ⟨rfl, HR2.out⟩
set_option maxRecDepth 100000 in
set_option maxHeartbeats 1000000 in
/-- Drop. -/
theorem pdrop (w : World) (B b : Nat) (s q : Int) (v : Value) (l : List UInt8) (h : FmAt w B b s q v l) : Calls Tryd.prog 20 #[.pointer (some ⟨b, 0, none⟩)] w fun e w' => e = .returned (.tuple #[]) ∧ (∃ q', FmAt w' B b s q' (.slice none 0 0) []) ∧ Off (fun k => k = b) w w' := by
  obtain ⟨c0, c1, c2, fz⟩ := pcells h
  have f2 := fz 2
  have f1 := fz 1
  have HR := Lib.hid (prow h (v' := .slice none 0 0) (l' := []) (World.ownsRow_nil _ _ _ _))
  clear h fz
  go_enter Tryd.func20, Tryd.ntmps20
  go_wp2
  go_end0
  exact ⟨rfl, ⟨_, HR.out.1⟩, HR.out.2⟩
set_option maxRecDepth 100000 in
set_option maxHeartbeats 1000000 in
theorem ptick_end (w : World) (B b q : Nat) (s : Int) (v : Value) (l : List UInt8) (h : FmAt w B b s q v l) (hl : 0 < l.length) (hq : q ≤ 1000) (hs : s ≤ (q : Int) + 1) : Calls Tryd.prog 18 #[.pointer (some ⟨b, 0, none⟩)] w fun e w' => e = .returned (.tuple #[v, .bool true]) ∧ (∃ q', FmAt w' B b s q' (.slice none 0 0) []) ∧ Off (fun k => k = b) w w' := by
  obtain ⟨c0, c1, c2, fz⟩ := pcells h
  have f1 := fz 1
  have HR := Lib.hid (pquiet h ((q : Int) + 1))
  obtain ⟨a, c, rfl⟩ := row_form h.own
  have hne : ((l.length : Int) == 0) = false := beq_eq_false_iff_ne.2 (by omega)
  clear h fz
  go_enter Tryd.func18, Tryd.ntmps18
  go_wp2_with fail
  go_quiet (fail)
  generalize hw2 : (w.setCell ⟨b, 1, none⟩ (.int .i64 ((q : Int) + 1))).drewN nq = w2
  have HR2 : Hid (FmAt w2 B b s ((q : Int) + 1) (.slice a l.length c) l ∧ Off (fun k => k = b) w w2) := Lib.hid (by
    rw [← hw2]
    exact ⟨HR.out.1.off (Off.of_below (fun _ => False) (below_drew _ nq)) (fun f => f) (fun _ _ f => f), HR.out.2.trans (Off.of_below _ (below_drew _ nq))⟩)
  obtain ⟨_, _, c2', _⟩ := pcells HR2.out.1
  clear hw2 c0 c1 c2 f1
  go_wp2_with fail
  refine (pdrop w2 B b s _ _ l HR2.out.1).mono ?_
  rintro e w3 ⟨rfl, hf, ho⟩
  have H3 := Lib.hid (And.intro hf (HR2.out.2.trans ho))
  clear hf ho
  go_wp2
  go_ret2
  exact ⟨rfl, H3.out⟩
/-- The document's Framer. -/
structure XmAt (w : World) (B b : Nat) (s q : Int) (v : Value) (l : List UInt8) : Prop where
  obj : w.heap[b]? = some (.cells #[.int .i64 s, v, .int .i64 q] 49 (0, 0))
  own : w.ownsRow B 5 1 v l.length (bcells l)
theorem XmAt.off {w w' : World} {S : Nat → Prop} {B b : Nat} {s q : Int} {v : Value} {l : List UInt8} (h : XmAt w B b s q v l) (hk : Off S w w') (hr : ¬ S b) (hv : ∀ k, v.ownBlock = some k → ¬ S k) : XmAt w' B b s q v l :=
  ⟨(hk.block b (lt_heap h.obj) hr).trans h.obj, ownsRow_off h.own hk hv⟩
theorem xcells {w : World} {B b : Nat} {s q : Int} {v : Value} {l : List UInt8} (h : XmAt w B b s q v l) : w.cell? ⟨b, 0, none⟩ = some (.int .i64 s) ∧ w.cell? ⟨b, 2, none⟩ = some (.int .i64 q) ∧ w.cell? ⟨b, 1, none⟩ = some v ∧ (∀ i, w.frozen? ⟨b, i, none⟩ = false) :=
  ⟨by rw [cell_of_row _ _ _ _ _ _ h.obj]; rfl, by rw [cell_of_row _ _ _ _ _ _ h.obj]; rfl, by rw [cell_of_row _ _ _ _ _ _ h.obj]; rfl, fun i => frozen_of_row _ _ _ _ _ h.obj⟩
theorem xquiet {w : World} {B b : Nat} {s q : Int} {v : Value} {l : List UInt8} (h : XmAt w B b s q v l) (z : Int) : XmAt (w.setCell ⟨b, 2, none⟩ (.int .i64 z)) B b s z v l ∧ Off (fun k => k = b) w (w.setCell ⟨b, 2, none⟩ (.int .i64 z)) :=
  ⟨⟨set_obj h.obj rfl, ownsRow_off h.own (Off.set (fun k => k = b) w ⟨b, 2, none⟩ _ rfl) (fun k e s => row_no h.own h.obj (by decide) (by rw [e, s]))⟩, Off.set _ _ ⟨b, 2, none⟩ _ rfl⟩
theorem xrow {w : World} {B b : Nat} {s q : Int} {v : Value} {l : List UInt8} (h : XmAt w B b s q v l) {v' : Value} {l' : List UInt8} (ho : w.ownsRow B 5 1 v' l'.length (bcells l')) : XmAt (w.setCell ⟨b, 1, none⟩ v') B b s q v' l' ∧ Off (fun k => k = b) w (w.setCell ⟨b, 1, none⟩ v') :=
  ⟨⟨set_obj h.obj rfl, ownsRow_off ho (Off.set (fun k => k = b) w ⟨b, 1, none⟩ _ rfl) (fun k e s => row_no ho h.obj (by decide) (by rw [e, s]))⟩, Off.set _ _ ⟨b, 1, none⟩ _ rfl⟩

set_option maxRecDepth 100000 in
set_option maxHeartbeats 1000000 in
theorem xbyte (w : World) (B b : Nat) (s q : Int) (v : Value) (l : List UInt8) (x : UInt8) (h : XmAt w B b s q v l) (hB : B ≤ w.heap.size) (hl : l.length ≤ 257) : Calls Tryd.prog 17 #[.pointer (some ⟨b, 0, none⟩), .int .u8 (x.toNat : Int)] w fun e w' => e = .returned (.tuple #[]) ∧ ∃ v', XmAt w' B b s 0 v' (pushB l x) ∧ Off (fun k => k = b ∨ v.ownBlock = some k) w w' ∧ ∀ k, v'.ownBlock = some k → v.ownBlock = some k ∨ w.heap.size ≤ k := by
  obtain ⟨i0, hi0, hz0, hz1, hz2⟩ := info_parts info5
  obtain ⟨c0, c1, c2, fz⟩ := xcells h
  have f1 := fz 2
  have Q := xquiet h 0
  obtain ⟨a, c, rfl⟩ := row_form h.own
  have H := Lib.hid Q.1
  have HO := Lib.hid Q.2
  have HB : Hid (B ≤ w.heap.size) := Lib.hid hB
  clear h Q fz c0 hB
  by_cases hlt : l.length < 257
  · have HP : Hid (pushB l x = l ++ [x]) := Lib.hid (if_pos hlt)
    have hlt' : (l.length : Int) ≤ 256 := by omega
    have HN : Hid (∀ j u, [Value.int .u8 (x.toNat : Int)][j]? = some u → ((w.setCell ⟨b, 2, none⟩ (.int .i64 0)).alloc (.cells #[.int .u8 (x.toNat : Int)] 5)).cell? ((⟨w.heap.size, 0, none⟩ : Addr).add j) = some u) := Lib.hid (World.news_of_block (cs := #[.int .u8 (x.toNat : Int)]) (by have := heap_alloc_new (w.setCell ⟨b, 2, none⟩ (.int .i64 0)) (.cells #[.int .u8 (x.toNat : Int)] 5); simpa using this))
    go_enter Tryd.func17, Tryd.ntmps17
    go_wp2_with (at_builtin; refine wpList_append_lies _ rfl _ _ 22 rfl B 5 i0 _ 1 1 Tryd.underlying22 hi0 hz0 hz1 hz2 rfl (by omega) _ l.length (bcells l) rfl (H.out.own.alloc _) ⟨w.heap.size, 0, none⟩ 1 1 [.int .u8 (x.toNat : Int)] rfl rfl HN.out (by simp [Value.oneCell']) (by omega) (by unfold maxLen; omega) (by omega) (by have := HB.out; simp; omega) (w.heap.size + 1) (by simp) ?_)
    intro g2 c2 w2 ho hg hat hlt
    have hb : b < w.heap.size := by have := lt_heap H.out.obj; simpa [World.setCell] using this
    have ob : w2.heap[b]? = some (.cells #[.int .i64 s, .slice a l.length c, .int .i64 0] 49 (0, 0)) := by
      have hx := (below_new (w.setCell ⟨b, 2, none⟩ (.int .i64 0)) (.cells #[.int .u8 (x.toNat : Int)] 5)).block b (lt_heap H.out.obj)
      refine (hg.block b ?_ (fun e => row_no H.out.own H.out.obj (by decide) e.symm)).trans (hx.trans H.out.obj)
      have := lt_heap H.out.obj
      simp at this ⊢
      omega
    have ho' : w2.ownsRow B 5 1 (.slice (some ⟨g2, 0, none⟩) (l.length + 1) c2) (l ++ [x]).length (bcells (l ++ [x])) := by
      rw [bcells_append, List.length_append]
      exact ho
    have OW : Off (fun k => k = b ∨ (Value.slice a l.length c).ownBlock = some k) w w2 := ((HO.out.mono (fun k _ e => .inl e)).trans (Off.of_below _ (below_new _ _))).trans ((Off.of_grown hg).mono (fun k _ e => .inr e))
    have hF : XmAt w2 B b s 0 (.slice a l.length c) l ∨ True := .inr trivial
    clear hF
    have c2' : w2.cell? ⟨b, 1, none⟩ = some (.slice a l.length c) := by rw [cell_of_row _ _ _ _ _ _ ob]; rfl
    have f2' : w2.frozen? ⟨b, 1, none⟩ = false := frozen_of_row _ _ _ _ _ ob
    have HR : Hid (∃ v', XmAt (w2.setCell ⟨b, 1, none⟩ (.slice (some ⟨g2, 0, none⟩) (l.length + 1) c2)) B b s 0 v' (pushB l x) ∧ Off (fun k => k = b ∨ (Value.slice a l.length c).ownBlock = some k) w (w2.setCell ⟨b, 1, none⟩ (.slice (some ⟨g2, 0, none⟩) (l.length + 1) c2)) ∧ ∀ k, v'.ownBlock = some k → (Value.slice a l.length c).ownBlock = some k ∨ w.heap.size ≤ k) := Lib.hid (by
      rw [HP.out]
      refine ⟨_, ⟨set_obj ob rfl, ownsRow_off ho' (Off.set (fun k => k = b) w2 ⟨b, 1, none⟩ _ rfl) (fun k e s => row_no ho' ob (by decide) (by rw [e, s]))⟩, OW.trans ((Off.set (fun k => k = b) _ ⟨b, 1, none⟩ _ rfl).mono (fun k _ e => .inl e)), fun k hk => ?_⟩
      have e2 : g2 = k := by simpa [Value.ownBlock] using hk
      rw [← e2]
      rcases hat with h | h
      · exact .inl h
      · exact .inr (by omega))
    clear ho hg hat hlt ob OW ho'
    go_wp2
    go_end0
    exact ⟨rfl, HR.out⟩
  · have HP : Hid (pushB l x = l) := Lib.hid (if_neg hlt)
    have hlt' : (256 : Int) < (l.length : Int) := by omega
    go_enter Tryd.func17, Tryd.ntmps17
    go_wp2
    go_end0
    exact ⟨rfl, _, by rw [HP.out]; exact H.out, HO.out.mono (fun k _ e => .inl e), fun k hk => .inl hk⟩

set_option maxRecDepth 100000 in
set_option maxHeartbeats 1000000 in
theorem xtick_none (w : World) (B b : Nat) (s q : Int) (v : Value) (h : XmAt w B b s q v []) : Calls Tryd.prog 19 #[.pointer (some ⟨b, 0, none⟩)] w fun e w' => e = .returned (.tuple #[.slice none 0 0, .bool false]) ∧ w = w' := by
  obtain ⟨_, _, c2, _⟩ := xcells h
  obtain ⟨a, c, rfl⟩ := row_form h.own
  rw [List.length_nil] at c2
  clear h
  go_enter Tryd.func19, Tryd.ntmps19
  go_wp2
  go_ret2
  exact ⟨rfl, rfl⟩
set_option maxRecDepth 100000 in
set_option maxHeartbeats 1000000 in
theorem xtick_more (w : World) (B b q : Nat) (s : Int) (v : Value) (l : List UInt8) (h : XmAt w B b s q v l) (hl : 0 < l.length) (hq : q ≤ 1000) (hs : (q : Int) + 1 < s) : Calls Tryd.prog 19 #[.pointer (some ⟨b, 0, none⟩)] w fun e w' => e = .returned (.tuple #[.slice none 0 0, .bool false]) ∧ XmAt w' B b s ((q + 1 : Nat) : Int) v l ∧ Off (fun k => k = b) w w' := by
  obtain ⟨c0, c1, c2, fz⟩ := xcells h
  have f1 := fz 2
  have HR := Lib.hid (xquiet h ((q : Int) + 1))
  obtain ⟨a, c, rfl⟩ := row_form h.own
  have hne : ((l.length : Int) == 0) = false := beq_eq_false_iff_ne.2 (by omega)
  clear h fz
  go_enter Tryd.func19, Tryd.ntmps19
  go_wp2_with fail
  go_quiet (fail)
  generalize hw2 : (w.setCell ⟨b, 2, none⟩ (.int .i64 ((q : Int) + 1))).drewN nq = w2
  have HR2 : Hid (XmAt w2 B b s ((q + 1 : Nat) : Int) (.slice a l.length c) l ∧ Off (fun k => k = b) w w2) := Lib.hid (by
    rw [← hw2]
    exact ⟨HR.out.1.off (Off.of_below (fun _ => False) (below_drew _ nq)) (fun f => f) (fun _ _ f => f), HR.out.2.trans (Off.of_below _ (below_drew _ nq))⟩)
  clear hw2
  go_wp2
  go_ret2
  exact ⟨rfl, HR2.out⟩
set_option maxRecDepth 100000 in
set_option maxHeartbeats 1000000 in
/-- Drop. -/
theorem xdrop (w : World) (B b : Nat) (s q : Int) (v : Value) (l : List UInt8) (h : XmAt w B b s q v l) : Calls Tryd.prog 21 #[.pointer (some ⟨b, 0, none⟩)] w fun e w' => e = .returned (.tuple #[]) ∧ (∃ q', XmAt w' B b s q' (.slice none 0 0) []) ∧ Off (fun k => k = b) w w' := by
  obtain ⟨c0, c1, c2, fz⟩ := xcells h
  have f2 := fz 1
  have f1 := fz 2
  have HR := Lib.hid (xrow h (v' := .slice none 0 0) (l' := []) (World.ownsRow_nil _ _ _ _))
  have HR3 := Lib.hid (xquiet HR.out.1 0)
  clear h fz
  go_enter Tryd.func21, Tryd.ntmps21
  go_wp2
  go_end0
  exact ⟨rfl, ⟨_, HR3.out.1⟩, HR.out.2.trans HR3.out.2⟩
set_option maxRecDepth 100000 in
set_option maxHeartbeats 1000000 in
theorem xtick_end (w : World) (B b q : Nat) (s : Int) (v : Value) (l : List UInt8) (h : XmAt w B b s q v l) (hl : 0 < l.length) (hq : q ≤ 1000) (hs : s ≤ (q : Int) + 1) : Calls Tryd.prog 19 #[.pointer (some ⟨b, 0, none⟩)] w fun e w' => e = .returned (.tuple #[v, .bool true]) ∧ (∃ q', XmAt w' B b s q' (.slice none 0 0) []) ∧ Off (fun k => k = b) w w' := by
  obtain ⟨c0, c1, c2, fz⟩ := xcells h
  have f1 := fz 2
  have HR := Lib.hid (xquiet h ((q : Int) + 1))
  obtain ⟨a, c, rfl⟩ := row_form h.own
  have hne : ((l.length : Int) == 0) = false := beq_eq_false_iff_ne.2 (by omega)
  clear h fz
  go_enter Tryd.func19, Tryd.ntmps19
  go_wp2_with fail
  go_quiet (fail)
  generalize hw2 : (w.setCell ⟨b, 2, none⟩ (.int .i64 ((q : Int) + 1))).drewN nq = w2
  have HR2 : Hid (XmAt w2 B b s ((q : Int) + 1) (.slice a l.length c) l ∧ Off (fun k => k = b) w w2) := Lib.hid (by
    rw [← hw2]
    exact ⟨HR.out.1.off (Off.of_below (fun _ => False) (below_drew _ nq)) (fun f => f) (fun _ _ f => f), HR.out.2.trans (Off.of_below _ (below_drew _ nq))⟩)
  obtain ⟨_, _, c2', _⟩ := xcells HR2.out.1
  clear hw2 c0 c1 c2 f1
  go_wp2_with fail
  refine (xdrop w2 B b s _ _ l HR2.out.1).mono ?_
  rintro e w3 ⟨rfl, hf, ho⟩
  have H3 := Lib.hid (And.intro hf (HR2.out.2.trans ho))
  clear hf ho
  go_wp2
  go_ret2
  exact ⟨rfl, H3.out⟩

set_option maxRecDepth 100000 in
set_option maxHeartbeats 1000000 in
theorem ppend (w : World) (B b : Nat) (s q : Int) (v : Value) (l : List UInt8) (h : FmAt w B b s q v l) : Calls Tryd.prog 23 #[.pointer (some ⟨b, 0, none⟩)] w fun e w' => e = .returned (.int .i64 (l.length : Int)) ∧ w = w' := by
  obtain ⟨_, _, c2, _⟩ := pcells h
  obtain ⟨a, c, rfl⟩ := row_form h.own
  clear h
  go_enter Tryd.func23, Tryd.ntmps23
  go_wp2
  go_ret
  exact ⟨rfl, rfl⟩
/-- What a copy is. -/
def CopyFm (w : World) (B : Nat) (s q : Int) (l : List UInt8) (e : Ending) (w' : World) : Prop :=
  ∃ (b' : Nat) (v' : Value), e = .returned (.pointer (some ⟨b', 0, none⟩)) ∧ FmAt w' B b' s q v' l ∧ Below w.heap.size w w' ∧ w.heap.size ≤ b' ∧ ∀ k, v'.ownBlock = some k → w.heap.size ≤ k
set_option maxRecDepth 100000 in
set_option maxHeartbeats 2000000 in
theorem pcopy (w : World) (B b : Nat) (s q : Int) (v : Value) (l : List UInt8) (h : FmAt w B b s q v l) (hB : B ≤ w.heap.size) (hl : l.length ≤ 257) : Calls Tryd.prog 22 #[.pointer (some ⟨b, 0, none⟩)] w (CopyFm w B s q l) := by
  obtain ⟨c0, c1, c2, _⟩ := pcells h
  have H := Lib.hid h
  obtain ⟨a, c, rfl⟩ := row_form h.own
  have BD : Hid (Below w.heap.size w w.drew) := Lib.hid (Below.refl _ w).drew
  clear h
  go_enter Tryd.func22, Tryd.ntmps22
  go_wp2_with fail
  go_region_held3 (fun w' => w'.cell? ⟨b, 0, none⟩ = some (.int .i64 s) ∧ w'.cell? ⟨b, 1, none⟩ = some (.int .i64 q) ∧ w'.cell? ⟨b, 2, none⟩ = some (.slice a l.length c))
    (first | exact ⟨c0, c1, c2⟩ | exact ⟨d0, d1, d2⟩ | exact ⟨e0, e1, e2⟩ | go_keep)
    ((go_at_call 30; refine (clone_any _ l _ ((bytesAt_own H.out.own).on BD.out) (by omega)).mono ?_; rintro e w1 ⟨v1, rfl, ho, hb⟩; have HB1 : Hid (Below w.heap.size w w1) := Lib.hid (BD.out.trans hb); have HO1 := Lib.hid ho; obtain ⟨a1, k1, rfl⟩ := row_form ho; have d0 := (HB1.out.cell (lt_cell c0)).trans c0; have d1 := (HB1.out.cell (lt_cell c1)).trans c1; have d2 := (HB1.out.cell (lt_cell c2)).trans c2; clear ho hb; simp only []))
  have HR : Hid (CopyFm w B s q l (.returned (.pointer (some ⟨w1.heap.size, 0, none⟩))) (w1.alloc (.cells #[.int .i64 s, .int .i64 q, .slice a1 l.length k1] 69))) := Lib.hid ⟨w1.heap.size, .slice a1 l.length k1, rfl, ⟨heap_alloc_new w1 _, (own_base HO1.out (by simpa using hB)).alloc _⟩, HB1.out.trans ((below_new w1 _).mono HB1.out.size), HB1.out.size, fun k hk => by simpa using (HO1.out.lt k hk).1⟩
  clear d0 d1 d2 c0 c1 c2
  go_wp2
  go_ret
  exact HR.out
end Go.Proofs.YthcehcfeedikkaaDoor
