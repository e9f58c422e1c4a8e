/- yardref.CopyInts and yardref.CopyConfig: a configuration with lists of its own; all older memory stands. -/
import Derived.Test.YtpocjmlkhophoaaGreatDoorGrow
import Derived.Test.YtpocjmlkhophoaaGreatDoorCk7
import Derived.Laws.Tables
import Derived.Laws.CopyOwn
namespace Go.Proofs.YtpocjmlkhophoaaGreatDoor
open Go.RowKit Go.Extern.Stop Go.Stop Go.Extern

theorem made_row (w : World) (e k : Nat) : (w.alloc (.cells #[] e)).ownsRow w.heap.size e k (.slice (some ⟨w.heap.size, 0, none⟩) 0 0) 0 [] := World.ownsRow_made w #[] 0 (Nat.le_refl _) (Nat.zero_le _) (by simp)
/-- append([]T{}, x...). -/
theorem app_copy {t e k b : Nat} (hT : AppT t e k b) (W : World) (y : Value) (m : Nat) (us : List Value) (hy : LiesAt W y m us) (hus : us.length = m * k) (h1 : ∀ u ∈ us, u.oneCell' = true) (hl : m ≤ 1000000) (hb : b ≤ 1000) :
    ∃ v' w', (Builtin.append_ #[t, t] t #[.slice (some ⟨W.heap.size, 0, none⟩) 0 0, y]).run Tryz.prog (W.alloc (.cells #[] e)) = .ok v' w' ∧ w'.ownsRow W.heap.size e k v' m us ∧ Below W.heap.size W w' := by
  obtain ⟨v', w', h1', h2⟩ := app_row hT (W.alloc (.cells #[] e)) W.heap.size (.slice (some ⟨W.heap.size, 0, none⟩) 0 0) y 0 m [] us (made_row W e k) (hy.on (below_new _ _)) hus h1 (by simp) (by omega) hb
  refine ⟨v', w', h1', by simpa using h2.1, (below_new W _).trans (h2.below (made_row W e k) (by simp))⟩
set_option maxRecDepth 100000 in
theorem copyInts_any (x : Value) (l : List Int) (w : World) (hx : LiesAt w x l.length (icells l)) (hl : l.length ≤ 1000000) : Calls Tryz.prog 37 #[x] w fun e w' => ∃ v', e = .returned v' ∧ w'.ownsRow w.heap.size 3 1 v' l.length (icells l) ∧ Below w.heap.size w w' := by
  obtain ⟨v', w', happ, ho, hb⟩ := app_copy appT_int w x l.length (icells l) hx (by rw [icells_length]; omega) (icells_one l) hl (by omega)
  have HO := Lib.hid ho
  have HB := Lib.hid hb
  obtain ⟨ao, cap, rfl, _⟩ := hx
  clear ho hb
  go_enter Tryz.func37, Tryz.ntmps37
  go_wp2_with (at_builtin; refine Lib.wpList_append_run _ rfl _ _ _ _ rfl _ _ rfl rfl _ _ happ ?_)
  go_ret
  exact ⟨v', rfl, HO.out, HB.out⟩

/-- A configuration's cells. -/
def cfgCells (c : Cfg) (sl po pt ct : Value) : Array Value := #[.int .i64 c.own, .int .i64 c.master, .bool c.unsol, .int .i64 c.reply, .int .i64 c.silence, .int .i64 c.retries, .int .i64 c.offline, .int .i64 c.select, .int .i64 c.confirm, .int .i64 c.frag, .int .i64 c.r0, .int .i64 c.r1, .int .i64 c.r2, sl, po, pt, ct]
/-- A configuration's box, lists of its own. -/
structure OwnLists (w : World) (B : Nat) (c : Cfg) (sl po pt ct : Value) : Prop where
  sl : w.ownsRow B 3 1 sl c.slaves.length (icells c.slaves)
  po : w.ownsRow B 68 5 po c.polls.length (pollCells c.polls)
  pt : w.ownsRow B 62 8 pt c.points.length (ptCells c.points)
  ct : w.ownsRow B 70 3 ct c.ctls.length (ctlCells c.ctls)
theorem OwnLists.lists {w : World} {B : Nat} {c : Cfg} {sl po pt ct : Value} (h : OwnLists w B c sl po pt ct) : ListsAt w c sl po pt ct := ⟨own_lies h.sl, own_lies h.po, own_lies h.pt, own_lies h.ct⟩
theorem row_apart {w : World} {base : Nat} {e : TypeId} {size : Nat} {v : Value} {n : Nat} {xs : List Value} (h : w.ownsRow base e size v n xs) {r : Nat} {cs : Array Value} {t : TypeId} {fr : Nat × Nat} (hr : w.heap[r]? = some (.cells cs t fr)) (ht : t ≠ e) : v.ownBlock ≠ some r := fun e' => by
  rcases h.2 with ⟨hv, _⟩ | ⟨g, cap, cur, hv, _, hh, _⟩
  · rw [hv] at e'; cases e'
  · rw [hv] at e'
    have : g = r := by simpa [Value.ownBlock] using e'
    rw [this, hr] at hh
    simp only [Option.some.injEq, Obj.cells.injEq] at hh
    exact ht hh.2.1
/-- A store into a box leaves rows of other types alone. -/
theorem own_set {w : World} {B : Nat} {e k n : Nat} {v : Value} {xs : List Value} (h : w.ownsRow B e k v n xs) {r o : Nat} {cs : Array Value} {t : Nat} {fr : Nat × Nat} (hr : w.heap[r]? = some (.cells cs t fr)) (ht : t ≠ e) (u : Value) : (w.setCell ⟨r, o, none⟩ u).ownsRow B e k v n xs :=
  ownsRow_off h (Off.set (fun i => i = r) w ⟨r, o, none⟩ u rfl) (fun i hi he => row_apart h hr ht (by rw [hi, he]))
theorem below_set (w : World) (B r o : Nat) (u : Value) (h : B ≤ r) : Below B w (w.setCell ⟨r, o, none⟩ u) :=
  ⟨rfl, rfl, rfl, by simp [World.setCell], fun k hk => Below.heap_setCell w ⟨r, o, none⟩ u k (by simp; omega)⟩
theorem lies_set {w : World} {v : Value} {n : Nat} {xs : List Value} (h : LiesAt w v n xs) (B r o : Nat) (u : Value) (hB : B ≤ r) (hv : ∀ a m c, v = .slice (some a) m c → xs ≠ [] → a.block < B) : LiesAt (w.setCell ⟨r, o, none⟩ u) v n xs := by
  obtain ⟨ao, cap, e, hn, hc⟩ := h
  refine ⟨ao, cap, e, hn, fun i x hi => ?_⟩
  obtain ⟨b, off, e', hk⟩ := hc i x hi
  refine ⟨b, off, e', ?_⟩
  have hlt := hv ⟨b, off, none⟩ n cap (by rw [e, e']) (by intro e0; rw [e0] at hi; simp at hi)
  have hne : b ≠ r := by simp at hlt; omega
  rw [World.cell?_setCell_other _ _ _ _ (by intro e; cases e; exact hne rfl)]
  exact hk
end Go.Proofs.YtpocjmlkhophoaaGreatDoor
/- A box that is written cell by cell. -/
namespace Go.Proofs.YtpocjmlkhophoaaGreatDoor
open Go.RowKit Go.Extern.Stop Go.Stop Go.Extern

def setAll (k : Nat) : World → Nat → List Value → World
  | w, _, [] => w
  | w, o, v :: vs => setAll k (w.setCell ⟨k, o, none⟩ v) (o + 1) vs
def setArr : Array Value → Nat → List Value → Array Value
  | cs, _, [] => cs
  | cs, o, v :: vs => setArr (cs.setIfInBounds o v) (o + 1) vs
theorem setAll_heap {k : Nat} {t : TypeId} {fr : Nat × Nat} : ∀ (vs : List Value) (w : World) (cs : Array Value) (o : Nat), w.heap[k]? = some (.cells cs t fr) → (setAll k w o vs).heap[k]? = some (.cells (setArr cs o vs) t fr)
  | [], _, _, _, h => h
  | v :: vs, w, cs, o, h => setAll_heap vs (w.setCell ⟨k, o, none⟩ v) (cs.setIfInBounds o v) (o + 1) (heap_set w k o cs t fr v h)
theorem setAll_off (k : Nat) : ∀ (vs : List Value) (w : World) (o : Nat), Off (fun i => i = k) w (setAll k w o vs)
  | [], w, _ => Off.refl _ w
  | v :: vs, w, o => (Off.set (fun i => i = k) w ⟨k, o, none⟩ v rfl).trans (setAll_off k vs (w.setCell ⟨k, o, none⟩ v) (o + 1))
theorem setAll_below {B k : Nat} (h : B ≤ k) (vs : List Value) (w : World) (o : Nat) : Below B w (setAll k w o vs) := by
  have h1 := setAll_off k vs w o
  exact ⟨h1.os, h1.tape, h1.output, h1.size, fun i hi => by
    rcases Nat.lt_or_ge i w.heap.size with hlt | hge
    · exact h1.block i hlt (by omega)
    · rcases Nat.lt_or_ge k w.heap.size with hk | hk
      · omega
      · have := h1.size
        by_cases he : i < (setAll k w o vs).heap.size
        · have hs : ∀ (vs : List Value) (w : World) (o : Nat), (setAll k w o vs).heap.size = w.heap.size := by
            intro vs
            induction vs with
            | nil => intro w o; rfl
            | cons v vs ih => intro w o; simp only [setAll]; rw [ih]; simp [World.setCell]
          rw [hs] at he
          omega
        · rw [Array.getElem?_eq_none (by omega), Array.getElem?_eq_none hge]⟩
/-- a row of another type stands. -/
theorem own_setAll {w : World} {B : Nat} {e s n : Nat} {v : Value} {xs : List Value} (h : w.ownsRow B e s v n xs) {k o : Nat} {cs : Array Value} {t : Nat} {fr : Nat × Nat} (hr : w.heap[k]? = some (.cells cs t fr)) (ht : t ≠ e) (vs : List Value) : (setAll k w o vs).ownsRow B e s v n xs :=
  ownsRow_off h (setAll_off k vs w o) (fun i hi he => row_apart h hr ht (by rw [hi, he]))
theorem cells_of {w : World} {k : Nat} {cs : Array Value} {t : TypeId} (h : w.heap[k]? = some (.cells cs t (0, 0))) (o : Nat) (u : Value) (hu : cs[o]? = some u) : w.cell? ⟨k, o, none⟩ = some u := by
  rw [cell_of_row _ _ _ _ _ _ h]
  exact hu
end Go.Proofs.YtpocjmlkhophoaaGreatDoor
/- yardref.CopyConfig: the configuration, with lists of the call's own. -/
namespace Go.Proofs.YtpocjmlkhophoaaGreatDoor
open Go.RowKit Go.Extern.Stop Go.Stop Go.Extern

theorem ownsRow_below {w w' : World} {base : Nat} {e : TypeId} {size : Nat} {v : Value} {n : Nat} {xs : List Value} (h : w.ownsRow base e size v n xs) (hb : Below w.heap.size w w') : w'.ownsRow base e size v n xs :=
  ownsRow_off h (Off.of_below (fun _ => False) hb) (fun _ _ f => f)
theorem own_setRow {w : World} {B : Nat} {e k n : Nat} {v : Value} {xs : List Value} (h : w.ownsRow B e k v n xs) {r : Nat} {cs : Array Value} {t : Nat} {fr : Nat × Nat} (hr : w.heap[r]? = some (.cells cs t fr)) (ht : t ≠ e) (us : Array Value) : (w.setRow r us).ownsRow B e k v n xs :=
  ownsRow_off h (S := fun i => i = r) ⟨rfl, rfl, rfl, by simp, fun i _ hi => setRow_other w r i us hi⟩ (fun i hi he => row_apart h hr ht (by rw [hi, he]))
/-- Two boxes stand. -/
theorem keep_heap {w w' : World} (hb : Below w.heap.size w w') {k : Nat} {o : Obj} (h : w.heap[k]? = some o) : w'.heap[k]? = some o := (hb.block k (lt_heap h)).trans h
theorem set_other {w : World} {r o : Nat} {u : Value} {k : Nat} {ob : Obj} (hne : k ≠ r) (h : w.heap[k]? = some ob) : (w.setCell ⟨r, o, none⟩ u).heap[k]? = some ob := by
  rw [Below.heap_setCell w ⟨r, o, none⟩ u k (by simpa using hne)]
  exact h
set_option maxRecDepth 100000 in
set_option maxHeartbeats 8000000 in
theorem copyConfig_any (c : Cfg) (sl po pt ct : Value) (w : World) (hl : ListsAt w c sl po pt ct) (hf : FewC c) : Calls Tryz.prog 15 #[cfgV c sl po pt ct] w fun e w' => ∃ v1 v2 v3 v4, e = .returned (cfgV c v1 v2 v3 v4) ∧ OwnLists w' w.heap.size c v1 v2 v3 v4 ∧ Below w.heap.size w w' := by
  have HLw := Lib.hid hl
  obtain ⟨W0, hW0⟩ : ∃ W0, W0 = (w.alloc (.cells #[.int .i64 c.own, .int .i64 c.master, .bool c.unsol, .int .i64 c.reply, .int .i64 c.silence, .int .i64 c.retries, .int .i64 c.offline, .int .i64 c.select, .int .i64 c.confirm, .int .i64 c.frag, .int .i64 c.r0, .int .i64 c.r1, .int .i64 c.r2, sl, po, pt, ct] 28)).alloc (.cells #[.int .i64 0, .int .i64 0, .bool false, .int .i64 0, .int .i64 0, .int .i64 0, .int .i64 0, .int .i64 0, .int .i64 0, .int .i64 0, .int .i64 0, .int .i64 0, .int .i64 0, .slice none 0 0, .slice none 0 0, .slice none 0 0, .slice none 0 0] 28) := ⟨_, rfl⟩
  have HB0 : Hid (Below w.heap.size w W0) := Lib.hid (by
    rw [hW0]
    exact (below_new w _).trans ((below_new (w.alloc _) _).mono (below_new w _).size))
  have HA0 : Hid (W0.heap[w.heap.size]? = some (.cells #[.int .i64 c.own, .int .i64 c.master, .bool c.unsol, .int .i64 c.reply, .int .i64 c.silence, .int .i64 c.retries, .int .i64 c.offline, .int .i64 c.select, .int .i64 c.confirm, .int .i64 c.frag, .int .i64 c.r0, .int .i64 c.r1, .int .i64 c.r2, sl, po, pt, ct] 28 (0, 0))) := Lib.hid (by
    rw [hW0, (two_new w _ _).1]
    exact heap_alloc_new w _)
  have HZ0 : Hid (W0.heap[w.heap.size + 1]? = some (.cells #[.int .i64 0, .int .i64 0, .bool false, .int .i64 0, .int .i64 0, .int .i64 0, .int .i64 0, .int .i64 0, .int .i64 0, .int .i64 0, .int .i64 0, .int .i64 0, .int .i64 0, .slice none 0 0, .slice none 0 0, .slice none 0 0, .slice none 0 0] 28 (0, 0))) := Lib.hid (by
    rw [hW0]
    exact (two_new w _ _).2)
  have HL0 := Lib.hid (hl.on HB0.out)
  have c13 := cells_of HA0.out 13 _ rfl
  obtain ⟨F1, F2, F3, F4⟩ := hf
  have HF := Lib.hid (And.intro F1 (And.intro F2 (And.intro F3 F4)))
  clear hl F1 F2 F3 F4
  unfold cfgV
  go_enter Tryz.func15, Tryz.ntmps15
  go_wp2_with fail
  rw [← hW0]
  refine (copyInts_any sl c.slaves W0 HL0.out.sl (by have := HF.out.1; omega)).mono ?_
  rintro e w1 ⟨v1, rfl, ho1, hb1⟩
  rename_i K1 hK1 K2 hK2
  have HK := Lib.hid hK1
  clear hK1 c13 hW0
  obtain ⟨av1, cv1, rfl⟩ := own_slice ho1
  have HA1 : Hid (w1.heap[w.heap.size]? = some (.cells #[.int .i64 c.own, .int .i64 c.master, .bool c.unsol, .int .i64 c.reply, .int .i64 c.silence, .int .i64 c.retries, .int .i64 c.offline, .int .i64 c.select, .int .i64 c.confirm, .int .i64 c.frag, .int .i64 c.r0, .int .i64 c.r1, .int .i64 c.r2, sl, po, pt, ct] 28 (0, 0))) := Lib.hid (keep_heap hb1 HA0.out)
  have HZ1 : Hid (w1.heap[w.heap.size + 1]? = some (.cells #[.int .i64 0, .int .i64 0, .bool false, .int .i64 0, .int .i64 0, .int .i64 0, .int .i64 0, .int .i64 0, .int .i64 0, .int .i64 0, .int .i64 0, .int .i64 0, .int .i64 0, .slice none 0 0, .slice none 0 0, .slice none 0 0, .slice none 0 0] 28 (0, 0))) := Lib.hid (keep_heap hb1 HZ0.out)
  have HB1 : Hid (Below w.heap.size w w1) := Lib.hid (HB0.out.trans (hb1.mono HB0.out.size))
  have HO11 : Hid (w1.ownsRow w.heap.size 3 1 (.slice av1 c.slaves.length cv1) c.slaves.length (icells c.slaves)) := Lib.hid (ownsRow_base ho1 HB0.out.size)
  clear ho1 hb1 HA0 HZ0 HB0 HL0
  have s1 := cells_of HA1.out 13 _ rfl
  have f1 : w1.frozen? ⟨w.heap.size, 13, none⟩ = false := frozen_of_row _ _ _ _ _ HA1.out
  go_wp2_with fail
  refine HK.out _ _ ?_
  clear HK s1 f1
  have HAs1 : Hid ((w1.setCell ⟨w.heap.size, 13, none⟩ (.slice av1 c.slaves.length cv1)).heap[w.heap.size]? = some (.cells #[.int .i64 c.own, .int .i64 c.master, .bool c.unsol, .int .i64 c.reply, .int .i64 c.silence, .int .i64 c.retries, .int .i64 c.offline, .int .i64 c.select, .int .i64 c.confirm, .int .i64 c.frag, .int .i64 c.r0, .int .i64 c.r1, .int .i64 c.r2, (.slice av1 c.slaves.length cv1), po, pt, ct] 28 (0, 0))) := Lib.hid (heap_set _ _ _ _ _ _ _ HA1.out)
  have HZs1 : Hid ((w1.setCell ⟨w.heap.size, 13, none⟩ (.slice av1 c.slaves.length cv1)).heap[w.heap.size + 1]? = some (.cells #[.int .i64 0, .int .i64 0, .bool false, .int .i64 0, .int .i64 0, .int .i64 0, .int .i64 0, .int .i64 0, .int .i64 0, .int .i64 0, .int .i64 0, .int .i64 0, .int .i64 0, .slice none 0 0, .slice none 0 0, .slice none 0 0, .slice none 0 0] 28 (0, 0))) := Lib.hid (set_other (by omega) HZ1.out)
  have HBs1 : Hid (Below w.heap.size w (w1.setCell ⟨w.heap.size, 13, none⟩ (.slice av1 c.slaves.length cv1))) := Lib.hid (HB1.out.trans (below_set _ _ _ _ _ (Nat.le_refl _)))
  have HOs11 : Hid ((w1.setCell ⟨w.heap.size, 13, none⟩ (.slice av1 c.slaves.length cv1)).ownsRow w.heap.size 3 1 (.slice av1 c.slaves.length cv1) c.slaves.length (icells c.slaves)) := Lib.hid (own_set HO11.out HA1.out (by decide) _)
  clear HA1 HZ1 HB1 HO11
  generalize (w1.setCell ⟨w.heap.size, 13, none⟩ (.slice av1 c.slaves.length cv1)) = W1 at *
  obtain ⟨v2, w2, happ, ho, hb⟩ := app_copy appT_poll W1 po c.polls.length (pollCells c.polls) (HLw.out.po.on HBs1.out) (by rw [pollCells_length]) (pollCells_one _) (by have := HF.out.2.1; omega) (by omega)
  obtain ⟨av2, cv2, rfl⟩ := own_slice ho
  have HA2 : Hid (w2.heap[w.heap.size]? = some (.cells #[.int .i64 c.own, .int .i64 c.master, .bool c.unsol, .int .i64 c.reply, .int .i64 c.silence, .int .i64 c.retries, .int .i64 c.offline, .int .i64 c.select, .int .i64 c.confirm, .int .i64 c.frag, .int .i64 c.r0, .int .i64 c.r1, .int .i64 c.r2, (.slice av1 c.slaves.length cv1), po, pt, ct] 28 (0, 0))) := Lib.hid (keep_heap hb HAs1.out)
  have HZ2 : Hid (w2.heap[w.heap.size + 1]? = some (.cells #[.int .i64 0, .int .i64 0, .bool false, .int .i64 0, .int .i64 0, .int .i64 0, .int .i64 0, .int .i64 0, .int .i64 0, .int .i64 0, .int .i64 0, .int .i64 0, .int .i64 0, .slice none 0 0, .slice none 0 0, .slice none 0 0, .slice none 0 0] 28 (0, 0))) := Lib.hid (keep_heap hb HZs1.out)
  have HB2 : Hid (Below w.heap.size w w2) := Lib.hid (HBs1.out.trans (hb.mono HBs1.out.size))
  have HO21 := Lib.hid (ownsRow_below HOs11.out hb)
  have HO22 : Hid (w2.ownsRow w.heap.size 68 5 (.slice av2 c.polls.length cv2) c.polls.length (pollCells c.polls)) := Lib.hid (ownsRow_base ho HBs1.out.size)
  have e2 : (W1.alloc (.cells #[] 68)).cell? ⟨w.heap.size, 14, none⟩ = some po := cells_of (keep_heap (below_new _ _) HAs1.out) 14 _ rfl
  clear ho hb HAs1 HZs1 HBs1 HOs11
  have s2 := cells_of HA2.out 14 _ rfl
  have f2 : w2.frozen? ⟨w.heap.size, 14, none⟩ = false := frozen_of_row _ _ _ _ _ HA2.out
  go_wp2_with (at_builtin; refine Lib.wpList_append_run _ rfl _ _ _ _ rfl _ _ rfl rfl _ _ happ ?_; rename_i K hK; have HK := Lib.hid hK; clear hK)
  refine HK.out _ _ ?_
  clear HK s2 f2 happ e2
  have HAs2 : Hid ((w2.setCell ⟨w.heap.size, 14, none⟩ (.slice av2 c.polls.length cv2)).heap[w.heap.size]? = some (.cells #[.int .i64 c.own, .int .i64 c.master, .bool c.unsol, .int .i64 c.reply, .int .i64 c.silence, .int .i64 c.retries, .int .i64 c.offline, .int .i64 c.select, .int .i64 c.confirm, .int .i64 c.frag, .int .i64 c.r0, .int .i64 c.r1, .int .i64 c.r2, (.slice av1 c.slaves.length cv1), (.slice av2 c.polls.length cv2), pt, ct] 28 (0, 0))) := Lib.hid (heap_set _ _ _ _ _ _ _ HA2.out)
  have HZs2 : Hid ((w2.setCell ⟨w.heap.size, 14, none⟩ (.slice av2 c.polls.length cv2)).heap[w.heap.size + 1]? = some (.cells #[.int .i64 0, .int .i64 0, .bool false, .int .i64 0, .int .i64 0, .int .i64 0, .int .i64 0, .int .i64 0, .int .i64 0, .int .i64 0, .int .i64 0, .int .i64 0, .int .i64 0, .slice none 0 0, .slice none 0 0, .slice none 0 0, .slice none 0 0] 28 (0, 0))) := Lib.hid (set_other (by omega) HZ2.out)
  have HBs2 : Hid (Below w.heap.size w (w2.setCell ⟨w.heap.size, 14, none⟩ (.slice av2 c.polls.length cv2))) := Lib.hid (HB2.out.trans (below_set _ _ _ _ _ (Nat.le_refl _)))
  have HOs21 : Hid ((w2.setCell ⟨w.heap.size, 14, none⟩ (.slice av2 c.polls.length cv2)).ownsRow w.heap.size 3 1 (.slice av1 c.slaves.length cv1) c.slaves.length (icells c.slaves)) := Lib.hid (own_set HO21.out HA2.out (by decide) _)
  have HOs22 : Hid ((w2.setCell ⟨w.heap.size, 14, none⟩ (.slice av2 c.polls.length cv2)).ownsRow w.heap.size 68 5 (.slice av2 c.polls.length cv2) c.polls.length (pollCells c.polls)) := Lib.hid (own_set HO22.out HA2.out (by decide) _)
  clear HA2 HZ2 HB2 HO21 HO22
  generalize (w2.setCell ⟨w.heap.size, 14, none⟩ (.slice av2 c.polls.length cv2)) = W2 at *
  as_aux_lemma =>
    obtain ⟨v3, w3, happ, ho, hb⟩ := app_copy appT_point W2 pt c.points.length (ptCells c.points) (HLw.out.pt.on HBs2.out) (by rw [ptCells_length]) (ptCells_one _) (by have := HF.out.2.2.1; omega) (by omega)
    obtain ⟨av3, cv3, rfl⟩ := own_slice ho
    have HA3 : Hid (w3.heap[w.heap.size]? = some (.cells #[.int .i64 c.own, .int .i64 c.master, .bool c.unsol, .int .i64 c.reply, .int .i64 c.silence, .int .i64 c.retries, .int .i64 c.offline, .int .i64 c.select, .int .i64 c.confirm, .int .i64 c.frag, .int .i64 c.r0, .int .i64 c.r1, .int .i64 c.r2, (.slice av1 c.slaves.length cv1), (.slice av2 c.polls.length cv2), pt, ct] 28 (0, 0))) := Lib.hid (keep_heap hb HAs2.out)
    have HZ3 : Hid (w3.heap[w.heap.size + 1]? = some (.cells #[.int .i64 0, .int .i64 0, .bool false, .int .i64 0, .int .i64 0, .int .i64 0, .int .i64 0, .int .i64 0, .int .i64 0, .int .i64 0, .int .i64 0, .int .i64 0, .int .i64 0, .slice none 0 0, .slice none 0 0, .slice none 0 0, .slice none 0 0] 28 (0, 0))) := Lib.hid (keep_heap hb HZs2.out)
    have HB3 : Hid (Below w.heap.size w w3) := Lib.hid (HBs2.out.trans (hb.mono HBs2.out.size))
    have HO31 := Lib.hid (ownsRow_below HOs21.out hb)
    have HO32 := Lib.hid (ownsRow_below HOs22.out hb)
    have HO33 : Hid (w3.ownsRow w.heap.size 62 8 (.slice av3 c.points.length cv3) c.points.length (ptCells c.points)) := Lib.hid (ownsRow_base ho HBs2.out.size)
    have e3 : (W2.alloc (.cells #[] 62)).cell? ⟨w.heap.size, 15, none⟩ = some pt := cells_of (keep_heap (below_new _ _) HAs2.out) 15 _ rfl
    clear ho hb HAs2 HZs2 HBs2 HOs21 HOs22
    have s3 := cells_of HA3.out 15 _ rfl
    have f3 : w3.frozen? ⟨w.heap.size, 15, none⟩ = false := frozen_of_row _ _ _ _ _ HA3.out
    go_wp2_with (at_builtin; refine Lib.wpList_append_run _ rfl _ _ _ _ rfl _ _ rfl rfl _ _ happ ?_; rename_i K hK; have HK := Lib.hid hK; clear hK)
    refine HK.out _ _ ?_
    clear HK s3 f3 happ e3
    have HAs3 : Hid ((w3.setCell ⟨w.heap.size, 15, none⟩ (.slice av3 c.points.length cv3)).heap[w.heap.size]? = some (.cells #[.int .i64 c.own, .int .i64 c.master, .bool c.unsol, .int .i64 c.reply, .int .i64 c.silence, .int .i64 c.retries, .int .i64 c.offline, .int .i64 c.select, .int .i64 c.confirm, .int .i64 c.frag, .int .i64 c.r0, .int .i64 c.r1, .int .i64 c.r2, (.slice av1 c.slaves.length cv1), (.slice av2 c.polls.length cv2), (.slice av3 c.points.length cv3), ct] 28 (0, 0))) := Lib.hid (heap_set _ _ _ _ _ _ _ HA3.out)
    have HZs3 : Hid ((w3.setCell ⟨w.heap.size, 15, none⟩ (.slice av3 c.points.length cv3)).heap[w.heap.size + 1]? = some (.cells #[.int .i64 0, .int .i64 0, .bool false, .int .i64 0, .int .i64 0, .int .i64 0, .int .i64 0, .int .i64 0, .int .i64 0, .int .i64 0, .int .i64 0, .int .i64 0, .int .i64 0, .slice none 0 0, .slice none 0 0, .slice none 0 0, .slice none 0 0] 28 (0, 0))) := Lib.hid (set_other (by omega) HZ3.out)
    have HBs3 : Hid (Below w.heap.size w (w3.setCell ⟨w.heap.size, 15, none⟩ (.slice av3 c.points.length cv3))) := Lib.hid (HB3.out.trans (below_set _ _ _ _ _ (Nat.le_refl _)))
    have HOs31 : Hid ((w3.setCell ⟨w.heap.size, 15, none⟩ (.slice av3 c.points.length cv3)).ownsRow w.heap.size 3 1 (.slice av1 c.slaves.length cv1) c.slaves.length (icells c.slaves)) := Lib.hid (own_set HO31.out HA3.out (by decide) _)
    have HOs32 : Hid ((w3.setCell ⟨w.heap.size, 15, none⟩ (.slice av3 c.points.length cv3)).ownsRow w.heap.size 68 5 (.slice av2 c.polls.length cv2) c.polls.length (pollCells c.polls)) := Lib.hid (own_set HO32.out HA3.out (by decide) _)
    have HOs33 : Hid ((w3.setCell ⟨w.heap.size, 15, none⟩ (.slice av3 c.points.length cv3)).ownsRow w.heap.size 62 8 (.slice av3 c.points.length cv3) c.points.length (ptCells c.points)) := Lib.hid (own_set HO33.out HA3.out (by decide) _)
    clear HA3 HZ3 HB3 HO31 HO32 HO33
    generalize (w3.setCell ⟨w.heap.size, 15, none⟩ (.slice av3 c.points.length cv3)) = W3 at *
    obtain ⟨v4, w4, happ, ho, hb⟩ := app_copy appT_ctl W3 ct c.ctls.length (ctlCells c.ctls) (HLw.out.ct.on HBs3.out) (by rw [ctlCells_length]) (ctlCells_one _) (by have := HF.out.2.2.2; omega) (by omega)
    obtain ⟨av4, cv4, rfl⟩ := own_slice ho
    have HA4 : Hid (w4.heap[w.heap.size]? = some (.cells #[.int .i64 c.own, .int .i64 c.master, .bool c.unsol, .int .i64 c.reply, .int .i64 c.silence, .int .i64 c.retries, .int .i64 c.offline, .int .i64 c.select, .int .i64 c.confirm, .int .i64 c.frag, .int .i64 c.r0, .int .i64 c.r1, .int .i64 c.r2, (.slice av1 c.slaves.length cv1), (.slice av2 c.polls.length cv2), (.slice av3 c.points.length cv3), ct] 28 (0, 0))) := Lib.hid (keep_heap hb HAs3.out)
    have HZ4 : Hid (w4.heap[w.heap.size + 1]? = some (.cells #[.int .i64 0, .int .i64 0, .bool false, .int .i64 0, .int .i64 0, .int .i64 0, .int .i64 0, .int .i64 0, .int .i64 0, .int .i64 0, .int .i64 0, .int .i64 0, .int .i64 0, .slice none 0 0, .slice none 0 0, .slice none 0 0, .slice none 0 0] 28 (0, 0))) := Lib.hid (keep_heap hb HZs3.out)
    have HB4 : Hid (Below w.heap.size w w4) := Lib.hid (HBs3.out.trans (hb.mono HBs3.out.size))
    have HO41 := Lib.hid (ownsRow_below HOs31.out hb)
    have HO42 := Lib.hid (ownsRow_below HOs32.out hb)
    have HO43 := Lib.hid (ownsRow_below HOs33.out hb)
    have HO44 : Hid (w4.ownsRow w.heap.size 70 3 (.slice av4 c.ctls.length cv4) c.ctls.length (ctlCells c.ctls)) := Lib.hid (ownsRow_base ho HBs3.out.size)
    have e4 : (W3.alloc (.cells #[] 70)).cell? ⟨w.heap.size, 16, none⟩ = some ct := cells_of (keep_heap (below_new _ _) HAs3.out) 16 _ rfl
    clear ho hb HAs3 HZs3 HBs3 HOs31 HOs32 HOs33
    have s4 := cells_of HA4.out 16 _ rfl
    have f4 : w4.frozen? ⟨w.heap.size, 16, none⟩ = false := frozen_of_row _ _ _ _ _ HA4.out
    go_wp2_with (at_builtin; refine Lib.wpList_append_run _ rfl _ _ _ _ rfl _ _ rfl rfl _ _ happ ?_; rename_i K hK; have HK := Lib.hid hK; clear hK)
    refine HK.out _ _ ?_
    clear HK s4 f4 happ e4
    have HAs4 : Hid ((w4.setCell ⟨w.heap.size, 16, none⟩ (.slice av4 c.ctls.length cv4)).heap[w.heap.size]? = some (.cells #[.int .i64 c.own, .int .i64 c.master, .bool c.unsol, .int .i64 c.reply, .int .i64 c.silence, .int .i64 c.retries, .int .i64 c.offline, .int .i64 c.select, .int .i64 c.confirm, .int .i64 c.frag, .int .i64 c.r0, .int .i64 c.r1, .int .i64 c.r2, (.slice av1 c.slaves.length cv1), (.slice av2 c.polls.length cv2), (.slice av3 c.points.length cv3), (.slice av4 c.ctls.length cv4)] 28 (0, 0))) := Lib.hid (heap_set _ _ _ _ _ _ _ HA4.out)
    have HZs4 : Hid ((w4.setCell ⟨w.heap.size, 16, none⟩ (.slice av4 c.ctls.length cv4)).heap[w.heap.size + 1]? = some (.cells #[.int .i64 0, .int .i64 0, .bool false, .int .i64 0, .int .i64 0, .int .i64 0, .int .i64 0, .int .i64 0, .int .i64 0, .int .i64 0, .int .i64 0, .int .i64 0, .int .i64 0, .slice none 0 0, .slice none 0 0, .slice none 0 0, .slice none 0 0] 28 (0, 0))) := Lib.hid (set_other (by omega) HZ4.out)
    have HBs4 : Hid (Below w.heap.size w (w4.setCell ⟨w.heap.size, 16, none⟩ (.slice av4 c.ctls.length cv4))) := Lib.hid (HB4.out.trans (below_set _ _ _ _ _ (Nat.le_refl _)))
    have HOs41 : Hid ((w4.setCell ⟨w.heap.size, 16, none⟩ (.slice av4 c.ctls.length cv4)).ownsRow w.heap.size 3 1 (.slice av1 c.slaves.length cv1) c.slaves.length (icells c.slaves)) := Lib.hid (own_set HO41.out HA4.out (by decide) _)
    have HOs42 : Hid ((w4.setCell ⟨w.heap.size, 16, none⟩ (.slice av4 c.ctls.length cv4)).ownsRow w.heap.size 68 5 (.slice av2 c.polls.length cv2) c.polls.length (pollCells c.polls)) := Lib.hid (own_set HO42.out HA4.out (by decide) _)
    have HOs43 : Hid ((w4.setCell ⟨w.heap.size, 16, none⟩ (.slice av4 c.ctls.length cv4)).ownsRow w.heap.size 62 8 (.slice av3 c.points.length cv3) c.points.length (ptCells c.points)) := Lib.hid (own_set HO43.out HA4.out (by decide) _)
    have HOs44 : Hid ((w4.setCell ⟨w.heap.size, 16, none⟩ (.slice av4 c.ctls.length cv4)).ownsRow w.heap.size 70 3 (.slice av4 c.ctls.length cv4) c.ctls.length (ctlCells c.ctls)) := Lib.hid (own_set HO44.out HA4.out (by decide) _)
    clear HA4 HZ4 HB4 HO41 HO42 HO43 HO44
    generalize (w4.setCell ⟨w.heap.size, 16, none⟩ (.slice av4 c.ctls.length cv4)) = W4 at *
    as_aux_lemma =>
      have hone : (#[.int .i64 c.own, .int .i64 c.master, .bool c.unsol, .int .i64 c.reply, .int .i64 c.silence, .int .i64 c.retries, .int .i64 c.offline, .int .i64 c.select, .int .i64 c.confirm, .int .i64 c.frag, .int .i64 c.r0, .int .i64 c.r1, .int .i64 c.r2, (.slice av1 c.slaves.length cv1), (.slice av2 c.polls.length cv2), (.slice av3 c.points.length cv3), (.slice av4 c.ctls.length cv4)] : Array Value).all (·.oneCell') = true := by simp [Value.oneCell']
      go_wp2_with (first | (refine wpList_load_row rfl 28 _ rfl w.heap.size rfl 28 #[.int .i64 c.own, .int .i64 c.master, .bool c.unsol, .int .i64 c.reply, .int .i64 c.silence, .int .i64 c.retries, .int .i64 c.offline, .int .i64 c.select, .int .i64 c.confirm, .int .i64 c.frag, .int .i64 c.r0, .int .i64 c.r1, .int .i64 c.r2, (.slice av1 c.slaves.length cv1), (.slice av2 c.polls.length cv2), (.slice av3 c.points.length cv3), (.slice av4 c.ctls.length cv4)] (0, 0) _ HAs4.out Tryz.underlying28 rfl (by kernel_rfl) ?_) | (refine wpList_store_row rfl 28 _ _ rfl (w.heap.size + 1) #[.int .i64 c.own, .int .i64 c.master, .bool c.unsol, .int .i64 c.reply, .int .i64 c.silence, .int .i64 c.retries, .int .i64 c.offline, .int .i64 c.select, .int .i64 c.confirm, .int .i64 c.frag, .int .i64 c.r0, .int .i64 c.r1, .int .i64 c.r2, (.slice av1 c.slaves.length cv1), (.slice av2 c.polls.length cv2), (.slice av3 c.points.length cv3), (.slice av4 c.ctls.length cv4)] rfl rfl 28 #[.int .i64 0, .int .i64 0, .bool false, .int .i64 0, .int .i64 0, .int .i64 0, .int .i64 0, .int .i64 0, .int .i64 0, .int .i64 0, .int .i64 0, .int .i64 0, .int .i64 0, .slice none 0 0, .slice none 0 0, .slice none 0 0, .slice none 0 0] HZs4.out (by kernel_rfl) rfl hone ?_))
      have hfin := setRow_heap W4 (w.heap.size + 1) _ #[.int .i64 c.own, .int .i64 c.master, .bool c.unsol, .int .i64 c.reply, .int .i64 c.silence, .int .i64 c.retries, .int .i64 c.offline, .int .i64 c.select, .int .i64 c.confirm, .int .i64 c.frag, .int .i64 c.r0, .int .i64 c.r1, .int .i64 c.r2, (.slice av1 c.slaves.length cv1), (.slice av2 c.polls.length cv2), (.slice av3 c.points.length cv3), (.slice av4 c.ctls.length cv4)] 28 (0, 0) HZs4.out
      have hfb : Below w.heap.size w (W4.setRow (w.heap.size + 1) #[.int .i64 c.own, .int .i64 c.master, .bool c.unsol, .int .i64 c.reply, .int .i64 c.silence, .int .i64 c.retries, .int .i64 c.offline, .int .i64 c.select, .int .i64 c.confirm, .int .i64 c.frag, .int .i64 c.r0, .int .i64 c.r1, .int .i64 c.r2, (.slice av1 c.slaves.length cv1), (.slice av2 c.polls.length cv2), (.slice av3 c.points.length cv3), (.slice av4 c.ctls.length cv4)]) := below_setRow HBs4.out (by omega) _
      refine bodyPost_ret (v := .agg #[.int .i64 c.own, .int .i64 c.master, .bool c.unsol, .int .i64 c.reply, .int .i64 c.silence, .int .i64 c.retries, .int .i64 c.offline, .int .i64 c.select, .int .i64 c.confirm, .int .i64 c.frag, .int .i64 c.r0, .int .i64 c.r1, .int .i64 c.r2, (.slice av1 c.slaves.length cv1), (.slice av2 c.polls.length cv2), (.slice av3 c.points.length cv3), (.slice av4 c.ctls.length cv4)]) ?_ rfl ?_
      · exact results_cell_row rfl _ _ (w.heap.size + 1) 28 #[.int .i64 c.own, .int .i64 c.master, .bool c.unsol, .int .i64 c.reply, .int .i64 c.silence, .int .i64 c.retries, .int .i64 c.offline, .int .i64 c.select, .int .i64 c.confirm, .int .i64 c.frag, .int .i64 c.r0, .int .i64 c.r1, .int .i64 c.r2, (.slice av1 c.slaves.length cv1), (.slice av2 c.polls.length cv2), (.slice av3 c.points.length cv3), (.slice av4 c.ctls.length cv4)] (0, 0) _ rfl hfin Tryz.underlying28 rfl (by kernel_rfl)
      · exact ⟨_, _, _, _, rfl, ⟨own_setRow HOs41.out HZs4.out (by decide) _, own_setRow HOs42.out HZs4.out (by decide) _, own_setRow HOs43.out HZs4.out (by decide) _, own_setRow HOs44.out HZs4.out (by decide) _⟩, hfb⟩
end Go.Proofs.YtpocjmlkhophoaaGreatDoor
