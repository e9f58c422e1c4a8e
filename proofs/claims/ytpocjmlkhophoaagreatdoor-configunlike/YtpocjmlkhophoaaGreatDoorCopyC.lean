/- yardref.CopyInts and yardref.CopyConfig: a configuration with lists of its own; all older memory stands. -/
import Derived.Test.YtpocjmlkhophoaaGreatDoorGrow
namespace Go.Proofs.YtpocjmlkhophoaaGreatDoor
open Go.RowKit Go.Extern.Stop Go.Stop Go.Extern

theorem made_row (w : World) (e k : Nat) : (w.alloc (.cells #[] e)).ownsRow w.heap.size e k (.slice (some ⟨w.heap.size, 0, none⟩) 0 0) 0 [] := World.ownsRow_made w #[] 0 (Nat.le_refl _) (Nat.zero_le _) (by simp)
/-- append([]T{}, x...). -/
theorem app_copy {t e k b : Nat} (hT : AppT t e k b) (W : World) (y : Value) (m : Nat) (us : List Value) (hy : LiesAt W y m us) (hus : us.length = m * k) (h1 : ∀ u ∈ us, u.oneCell' = true) (hl : m ≤ 1000000) (hb : b ≤ 1000) :
    ∃ v' w', (Builtin.append_ #[t, t] t #[.slice (some ⟨W.heap.size, 0, none⟩) 0 0, y]).run Tryz.prog (W.alloc (.cells #[] e)) = .ok v' w' ∧ w'.ownsRow W.heap.size e k v' m us ∧ Below W.heap.size W w' := by
  obtain ⟨v', w', h1', h2⟩ := app_row hT (W.alloc (.cells #[] e)) W.heap.size (.slice (some ⟨W.heap.size, 0, none⟩) 0 0) y 0 m [] us (made_row W e k) (hy.on (below_new _ _)) hus h1 (by simp) (by omega) hb
  refine ⟨v', w', h1', by simpa using h2.1, (below_new W _).trans (h2.below (made_row W e k) (by simp))⟩
set_option maxRecDepth 100000 in
theorem copyInts_any (x : Value) (l : List Int) (w : World) (hx : LiesAt w x l.length (icells l)) (hl : l.length ≤ 1000000) : Calls Tryz.prog 37 #[x] w fun e w' => ∃ v', e = .returned v' ∧ w'.ownsRow w.heap.size 3 1 v' l.length (icells l) ∧ Below w.heap.size w w' := by
  obtain ⟨v', w', happ, ho, hb⟩ := app_copy appT_int w x l.length (icells l) hx (by rw [icells_length]; omega) (icells_one l) hl (by omega)
  have HO := Lib.hid ho
  have HB := Lib.hid hb
  obtain ⟨ao, cap, rfl, _⟩ := hx
  clear ho hb
  go_enter Tryz.func37, Tryz.ntmps37
  go_wp2_with (at_builtin; refine Lib.wpList_append_run _ rfl _ _ _ _ rfl _ _ rfl rfl _ _ happ ?_)
  go_ret
  exact ⟨v', rfl, HO.out, HB.out⟩

/-- A configuration's cells. -/
def cfgCells (c : Cfg) (sl po pt ct : Value) : Array Value := #[.int .i64 c.own, .int .i64 c.master, .bool c.unsol, .int .i64 c.reply, .int .i64 c.silence, .int .i64 c.retries, .int .i64 c.offline, .int .i64 c.select, .int .i64 c.confirm, .int .i64 c.frag, .int .i64 c.r0, .int .i64 c.r1, .int .i64 c.r2, sl, po, pt, ct]
/-- A configuration's box, lists of its own. -/
structure OwnLists (w : World) (B : Nat) (c : Cfg) (sl po pt ct : Value) : Prop where
  sl : w.ownsRow B 3 1 sl c.slaves.length (icells c.slaves)
  po : w.ownsRow B 68 5 po c.polls.length (pollCells c.polls)
  pt : w.ownsRow B 62 8 pt c.points.length (ptCells c.points)
  ct : w.ownsRow B 70 3 ct c.ctls.length (ctlCells c.ctls)
theorem OwnLists.lists {w : World} {B : Nat} {c : Cfg} {sl po pt ct : Value} (h : OwnLists w B c sl po pt ct) : ListsAt w c sl po pt ct := ⟨own_lies h.sl, own_lies h.po, own_lies h.pt, own_lies h.ct⟩
theorem row_apart {w : World} {base : Nat} {e : TypeId} {size : Nat} {v : Value} {n : Nat} {xs : List Value} (h : w.ownsRow base e size v n xs) {r : Nat} {cs : Array Value} {t : TypeId} {fr : Nat × Nat} (hr : w.heap[r]? = some (.cells cs t fr)) (ht : t ≠ e) : v.ownBlock ≠ some r := fun e' => by
  rcases h.2 with ⟨hv, _⟩ | ⟨g, cap, cur, hv, _, hh, _⟩
  · rw [hv] at e'; cases e'
  · rw [hv] at e'
    have : g = r := by simpa [Value.ownBlock] using e'
    rw [this, hr] at hh
    simp only [Option.some.injEq, Obj.cells.injEq] at hh
    exact ht hh.2.1
/-- A store into a box leaves rows of other types alone. -/
theorem own_set {w : World} {B : Nat} {e k n : Nat} {v : Value} {xs : List Value} (h : w.ownsRow B e k v n xs) {r o : Nat} {cs : Array Value} {t : Nat} {fr : Nat × Nat} (hr : w.heap[r]? = some (.cells cs t fr)) (ht : t ≠ e) (u : Value) : (w.setCell ⟨r, o, none⟩ u).ownsRow B e k v n xs :=
  ownsRow_off h (Off.set (fun i => i = r) w ⟨r, o, none⟩ u rfl) (fun i hi he => row_apart h hr ht (by rw [hi, he]))
theorem below_set (w : World) (B r o : Nat) (u : Value) (h : B ≤ r) : Below B w (w.setCell ⟨r, o, none⟩ u) :=
  ⟨rfl, rfl, rfl, by simp [World.setCell], fun k hk => Below.heap_setCell w ⟨r, o, none⟩ u k (by simp; omega)⟩
theorem lies_set {w : World} {v : Value} {n : Nat} {xs : List Value} (h : LiesAt w v n xs) (B r o : Nat) (u : Value) (hB : B ≤ r) (hv : ∀ a m c, v = .slice (some a) m c → xs ≠ [] → a.block < B) : LiesAt (w.setCell ⟨r, o, none⟩ u) v n xs := by
  obtain ⟨ao, cap, e, hn, hc⟩ := h
  refine ⟨ao, cap, e, hn, fun i x hi => ?_⟩
  obtain ⟨b, off, e', hk⟩ := hc i x hi
  refine ⟨b, off, e', ?_⟩
  have hlt := hv ⟨b, off, none⟩ n cap (by rw [e, e']) (by intro e0; rw [e0] at hi; simp at hi)
  have hne : b ≠ r := by simp at hlt; omega
  rw [World.cell?_setCell_other _ _ _ _ (by intro e; cases e; exact hne rfl)]
  exact hk
end Go.Proofs.YtpocjmlkhophoaaGreatDoor
