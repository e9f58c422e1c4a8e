/- rtu.Framer: Byte and Tick. -/
import Derived.Test.YthcehcfeedikkaaDoorFrm
import Derived.Deep.RegionLaw
namespace Go.Proofs.YthcehcfeedikkaaDoor
open Go.RowKit Go.Extern.Stop Go.Stop Go.Extern

theorem below_drew (w : World) (n : Nat) : Below w.heap.size w (w.drewN n) := ⟨rfl, rfl, rfl, Nat.le_refl _, fun _ _ => rfl⟩
def pushB (l : List UInt8) (x : UInt8) : List UInt8 := if l.length < 257 then l ++ [x] else l

set_option maxRecDepth 100000 in
set_option maxHeartbeats 1000000 in
/-- Byte. -/
theorem byte_any (W0 w : World) (b : Nat) (s q : Int) (l : List UInt8) (x : UInt8) (h : Fm W0 b s q l w) (hl : l.length ≤ 257) : Calls Tryd.prog 16 #[.pointer (some ⟨b, 0, none⟩), .int .u8 (x.toNat : Int)] w fun e w' => e = .returned (.tuple #[]) ∧ Fm W0 b s 0 (pushB l x) w' := by
  obtain ⟨i0, hi0, hz0, hz1, hz2⟩ := info_parts info5
  obtain ⟨v, h1, hoff⟩ := h
  have f1 := h1.f 1
  have g1 := h1.c1
  have g2 := h1.c2
  have H1 := h1.obj
  have H2 : (w.setCell ⟨b, 1, none⟩ (.int .i64 0)).heap[b]? = some (.cells #[.int .i64 s, .int .i64 0, v] 69 (0, 0)) := set_obj H1 rfl
  have H3 : FmAt (w.setCell ⟨b, 1, none⟩ (.int .i64 0)) W0.heap.size b s 0 v l := ⟨H2, ownsRow_off h1.own (Off.set (fun k => k = b) w ⟨b, 1, none⟩ _ rfl) (fun k e s => row_no h1.own h1.obj (by decide) (by rw [e, s]))⟩
  have O3 : Off (fun k => k = b) W0 (w.setCell ⟨b, 1, none⟩ (.int .i64 0)) := hoff.trans (Off.set _ _ ⟨b, 1, none⟩ _ rfl)
  obtain ⟨a, c, rfl⟩ := row_form h1.own
  have H := Lib.hid H3
  have HO := Lib.hid O3
  clear h1 hoff H1 H2 H3 O3
  by_cases hlt : l.length < 257
  · have HP : Hid (pushB l x = l ++ [x]) := Lib.hid (if_pos hlt)
    have hlt' : (l.length : Int) < 257 := by omega
    have HB : Hid (W0.heap.size ≤ w.heap.size) := Lib.hid (by have := HO.out.size; simpa using this)
    have HN : Hid (∀ j u, [Value.int .u8 (x.toNat : Int)][j]? = some u → ((w.setCell ⟨b, 1, none⟩ (.int .i64 0)).alloc (.cells #[.int .u8 (x.toNat : Int)] 5)).cell? ((⟨w.heap.size, 0, none⟩ : Addr).add j) = some u) := Lib.hid (World.news_of_block (cs := #[.int .u8 (x.toNat : Int)]) (by have := heap_alloc_new (w.setCell ⟨b, 1, none⟩ (.int .i64 0)) (.cells #[.int .u8 (x.toNat : Int)] 5); simpa using this))
    go_enter Tryd.func16, Tryd.ntmps16
    go_wp2_with (at_builtin; refine wpList_append_lies _ rfl _ _ 22 rfl W0.heap.size 5 i0 _ 1 1 Tryd.underlying22 hi0 hz0 hz1 hz2 rfl (by omega) _ l.length (bcells l) rfl (H.out.own.alloc _) ⟨w.heap.size, 0, none⟩ 1 1 [.int .u8 (x.toNat : Int)] rfl rfl HN.out (by simp [Value.oneCell']) (by omega) (by unfold maxLen; omega) (by omega) (by have := HB.out; simp; omega) (w.heap.size + 1) (by simp) ?_)
    intro g2 c2 w2 ho hg hat hlt
    have ob : w2.heap[b]? = some (.cells #[.int .i64 s, .int .i64 0, .slice a l.length c] 69 (0, 0)) := by
      have hx := (below_new (w.setCell ⟨b, 1, none⟩ (.int .i64 0)) (.cells #[.int .u8 (x.toNat : Int)] 5)).block b H.out.lt
      refine (hg.block b ?_ (fun e => row_no H.out.own H.out.obj (by decide) e.symm)).trans (hx.trans H.out.obj)
      have := H.out.lt
      simp at this ⊢
      omega
    have c2' : w2.cell? ⟨b, 2, none⟩ = some (.slice a l.length c) := by rw [cell_of_row _ _ _ _ _ _ ob]; rfl
    have f2' : w2.frozen? ⟨b, 2, none⟩ = false := frozen_of_row _ _ _ _ _ ob
    have OW : Off (fun k => k = b ∨ (Value.slice a l.length c).ownBlock = some k) W0 w2 := ((HO.out.mono (fun k _ e => .inl e)).trans (Off.of_below _ (below_new _ _))).trans ((Off.of_grown hg).mono (fun k _ e => .inr e))
    have OW2 : Off (fun k => k = b) W0 w2 := ⟨OW.os, OW.tape, OW.output, OW.size, fun k hk hn => OW.block k hk (fun e => by
      rcases e with e | e
      · exact hn e
      · have := (H.out.own.lt k e).1; omega)⟩
    have HR : Hid (Fm W0 b s 0 (pushB l x) (w2.setCell ⟨b, 2, none⟩ (.slice (some ⟨g2, 0, none⟩) (l.length + 1) c2))) := Lib.hid (by
      rw [HP.out]
      refine ⟨_, ⟨set_obj ob rfl, ?_⟩, OW2.trans (Off.set _ _ ⟨b, 2, none⟩ _ rfl)⟩
      have ho' : w2.ownsRow W0.heap.size 5 1 (.slice (some ⟨g2, 0, none⟩) (l.length + 1) c2) (l ++ [x]).length (bcells (l ++ [x])) := by
        rw [bcells_append, List.length_append]
        exact ho
      exact ownsRow_off ho' (Off.set (fun k => k = b) w2 ⟨b, 2, none⟩ _ rfl) (fun k e s => row_no ho' ob (by decide) (by rw [e, s])))
    clear ho hg hat hlt ob OW OW2
    go_wp2
    go_end0
    exact ⟨rfl, HR.out⟩
  · have HP : Hid (pushB l x = l) := Lib.hid (if_neg hlt)
    have hlt' : (257 : Int) ≤ (l.length : Int) := by omega
    go_enter Tryd.func16, Tryd.ntmps16
    go_wp2
    go_end0
    exact ⟨rfl, by rw [HP.out]; exact ⟨_, H.out, HO.out⟩⟩

set_option maxRecDepth 100000 in
set_option maxHeartbeats 1000000 in
/-- Tick, where there are no bytes. -/
theorem tick_none (W0 w : World) (b : Nat) (s q : Int) (h : Fm W0 b s q [] w) : Calls Tryd.prog 18 #[.pointer (some ⟨b, 0, none⟩)] w fun e w' => e = .returned (.tuple #[.slice none 0 0, .bool false]) ∧ w = w' := by
  obtain ⟨v, h1, _⟩ := h
  have c2 := h1.c2
  obtain ⟨a, c, rfl⟩ := row_form h1.own
  rw [List.length_nil] at c2
  clear h1
  go_enter Tryd.func18, Tryd.ntmps18
  go_wp2
  go_ret2
  exact ⟨rfl, rfl⟩
set_option maxRecDepth 100000 in
set_option maxHeartbeats 1000000 in
/-- Tick, where the silence goes on. -/
theorem tick_more (W0 w : World) (b q : Nat) (s : Int) (l : List UInt8) (h : Fm W0 b s q l w) (hl : 0 < l.length) (hq : q ≤ 1000) (hs : (q : Int) + 1 < s) : Calls Tryd.prog 18 #[.pointer (some ⟨b, 0, none⟩)] w fun e w' => e = .returned (.tuple #[.slice none 0 0, .bool false]) ∧ Fm W0 b s ((q + 1 : Nat) : Int) l w' := by
  obtain ⟨v, h1, hoff⟩ := h
  have c0 := h1.c0
  have c1 := h1.c1
  have c2 := h1.c2
  have f1 := h1.f 1
  have HR : Hid (Fm W0 b s ((q + 1 : Nat) : Int) l (w.setCell ⟨b, 1, none⟩ (.int .i64 ((q : Int) + 1)))) := Lib.hid ⟨v, ⟨set_obj h1.obj (by simp), ownsRow_off h1.own (Off.set (fun k => k = b) w ⟨b, 1, none⟩ _ rfl) (fun k e s => row_no h1.own h1.obj (by decide) (by rw [e, s]))⟩, hoff.trans (Off.set _ _ ⟨b, 1, none⟩ _ rfl)⟩
  obtain ⟨a, c, rfl⟩ := row_form h1.own
  have hne : ((l.length : Int) == 0) = false := beq_eq_false_iff_ne.2 (by omega)
  clear h1 hoff
  go_enter Tryd.func18, Tryd.ntmps18
  go_wp2_with fail
  go_quiet (fail)
  generalize hw2 : (w.setCell ⟨b, 1, none⟩ (.int .i64 ((q : Int) + 1))).drewN nq = w2
  have HR2 : Hid (Fm W0 b s ((q + 1 : Nat) : Int) l w2) := Lib.hid (by rw [← hw2]; exact HR.out.on (below_drew _ nq))
  clear hw2
  go_wp2
  go_ret2
  exact ⟨rfl, HR2.out⟩
/-- What Tick tells at the end of a frame. -/
def EndIs (W0 : World) (b : Nat) (s q : Int) (l : List UInt8) (e : Ending) (w' : World) : Prop :=
  ∃ v, e = .returned (.tuple #[v, .bool true]) ∧ w'.ownsRow W0.heap.size 5 1 v l.length (bcells l) ∧ Fm0 w' b s q ∧ Off (fun k => k = b) W0 w'
set_option maxRecDepth 100000 in
set_option maxHeartbeats 1000000 in
theorem tick_end (W0 w : World) (b q : Nat) (s : Int) (l : List UInt8) (h : Fm W0 b s q l w) (hl : 0 < l.length) (hq : q ≤ 1000) (hs : s ≤ (q : Int) + 1) : Calls Tryd.prog 18 #[.pointer (some ⟨b, 0, none⟩)] w (EndIs W0 b s ((q + 1 : Nat) : Int) l) := by
  obtain ⟨v, h1, hoff⟩ := h
  have c0 := h1.c0
  have c1 := h1.c1
  have c2 := h1.c2
  have f1 := h1.f 1
  have HR : Hid (Fm W0 b s ((q + 1 : Nat) : Int) l (w.setCell ⟨b, 1, none⟩ (.int .i64 ((q : Int) + 1))) ∧ FmAt (w.setCell ⟨b, 1, none⟩ (.int .i64 ((q : Int) + 1))) W0.heap.size b s ((q + 1 : Nat) : Int) v l) := Lib.hid (by
    have k : FmAt (w.setCell ⟨b, 1, none⟩ (.int .i64 ((q : Int) + 1))) W0.heap.size b s ((q + 1 : Nat) : Int) v l := ⟨set_obj h1.obj (by simp), ownsRow_off h1.own (Off.set (fun k => k = b) w ⟨b, 1, none⟩ _ rfl) (fun k e s => row_no h1.own h1.obj (by decide) (by rw [e, s]))⟩
    exact ⟨⟨v, k, hoff.trans (Off.set _ _ ⟨b, 1, none⟩ _ rfl)⟩, k⟩)
  obtain ⟨a, c, rfl⟩ := row_form h1.own
  have hne : ((l.length : Int) == 0) = false := beq_eq_false_iff_ne.2 (by omega)
  clear h1 hoff
  go_enter Tryd.func18, Tryd.ntmps18
  go_wp2_with fail
  go_quiet (fail)
  generalize hw2 : (w.setCell ⟨b, 1, none⟩ (.int .i64 ((q : Int) + 1))).drewN nq = w2
  have HR2 : Hid (Fm W0 b s ((q + 1 : Nat) : Int) l w2 ∧ FmAt w2 W0.heap.size b s ((q + 1 : Nat) : Int) (.slice a l.length c) l) := Lib.hid (by
    rw [← hw2]
    exact ⟨HR.out.1.on (below_drew _ nq), HR.out.2.off (Off.of_below (fun _ => False) (below_drew _ nq)) (fun f => f) (fun _ _ f => f)⟩)
  have c2' := HR2.out.2.c2
  clear hw2 c0 c1 c2 f1
  go_wp2_with fail
  refine (drop_any W0 _ b s _ l HR2.out.1).mono ?_
  rintro e w2 ⟨rfl, h0, ho⟩
  have HE : Hid (EndIs W0 b s ((q + 1 : Nat) : Int) l (.returned (.tuple #[.slice a l.length c, .bool true])) w2) := Lib.hid ⟨_, rfl, ownsRow_off HR2.out.2.own ho (fun k e s => row_no HR2.out.2.own HR2.out.2.obj (by decide) (by rw [e, s])), h0, HR2.out.1.off0.trans ho⟩
  clear h0 ho
  go_wp2
  go_ret2
  exact HE.out
end Go.Proofs.YthcehcfeedikkaaDoor
