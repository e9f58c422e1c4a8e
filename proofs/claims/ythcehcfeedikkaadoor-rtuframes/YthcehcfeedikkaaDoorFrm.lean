/- rtu.Framer in memory: New, Byte, Tick, Drop, Pending: what they answer, what they turn. -/
import Derived.Test.YthcehcfeedikkaaDoorRtu2
namespace Go.Proofs.YthcehcfeedikkaaDoor
open Go.RowKit Go.Extern.Stop Go.Stop Go.Extern

/-- A Framer: its silence, how long it is quiet, its own row of bytes. -/
structure FmAt (w : World) (B b : Nat) (s q : Int) (v : Value) (l : List UInt8) : Prop where
  obj : w.heap[b]? = some (.cells #[.int .i64 s, .int .i64 q, v] 69 (0, 0))
  own : w.ownsRow B 5 1 v l.length (bcells l)
theorem FmAt.c0 {w : World} {B b : Nat} {s q : Int} {v : Value} {l : List UInt8} (h : FmAt w B b s q v l) : w.cell? ⟨b, 0, none⟩ = some (.int .i64 s) := by rw [cell_of_row _ _ _ _ _ _ h.obj]; rfl
theorem FmAt.c1 {w : World} {B b : Nat} {s q : Int} {v : Value} {l : List UInt8} (h : FmAt w B b s q v l) : w.cell? ⟨b, 1, none⟩ = some (.int .i64 q) := by rw [cell_of_row _ _ _ _ _ _ h.obj]; rfl
theorem FmAt.c2 {w : World} {B b : Nat} {s q : Int} {v : Value} {l : List UInt8} (h : FmAt w B b s q v l) : w.cell? ⟨b, 2, none⟩ = some v := by rw [cell_of_row _ _ _ _ _ _ h.obj]; rfl
theorem FmAt.f {w : World} {B b : Nat} {s q : Int} {v : Value} {l : List UInt8} (h : FmAt w B b s q v l) (i : Nat) : w.frozen? ⟨b, i, none⟩ = false := frozen_of_row _ _ _ _ _ h.obj
theorem FmAt.lt {w : World} {B b : Nat} {s q : Int} {v : Value} {l : List UInt8} (h : FmAt w B b s q v l) : b < w.heap.size := lt_heap h.obj
theorem FmAt.off {w w' : World} {S : Nat → Prop} {B b : Nat} {s q : Int} {v : Value} {l : List UInt8} (h : FmAt w B b s q v l) (hk : Off S w w') (hr : ¬ S b) (hv : ∀ k, v.ownBlock = some k → ¬ S k) : FmAt w' B b s q v l :=
  ⟨(hk.block b h.lt hr).trans h.obj, ownsRow_off h.own hk hv⟩
/-- A Framer behind W0: all that W0 had stands, but for the Framer's own block. -/
def Fm (W0 : World) (b : Nat) (s q : Int) (l : List UInt8) (w : World) : Prop := ∃ v, FmAt w W0.heap.size b s q v l ∧ Off (fun k => k = b) W0 w
theorem Fm.on {W0 w w' : World} {b : Nat} {s q : Int} {l : List UInt8} (h : Fm W0 b s q l w) (hb : Below w.heap.size w w') : Fm W0 b s q l w' := by
  obtain ⟨v, h1, h2⟩ := h
  exact ⟨v, h1.off (Off.of_below (fun _ => False) hb) (fun f => f) (fun _ _ f => f), h2.trans (Off.of_below _ hb)⟩
/-- .. with no bytes at all. -/
def Fm0 (w : World) (b : Nat) (s q : Int) : Prop := w.heap[b]? = some (.cells #[.int .i64 s, .int .i64 q, .slice none 0 0] 69 (0, 0))
theorem Fm0.fm {w : World} {b : Nat} {s q : Int} (h : Fm0 w b s q) : Fm w b s q [] w := ⟨_, ⟨h, World.ownsRow_nil _ _ _ _⟩, Off.refl _ _⟩
theorem Fm0.fm' {W0 w : World} {b : Nat} {s q : Int} (h : Fm0 w b s q) (ho : Off (fun k => k = b) W0 w) : Fm W0 b s q [] w := ⟨_, ⟨h, World.ownsRow_nil _ _ _ _⟩, ho⟩
theorem Fm.below {W0 w : World} {b : Nat} {s q : Int} {l : List UInt8} (h : Fm W0 b s q l w) (hb : W0.heap.size ≤ b) : Below W0.heap.size W0 w := by
  obtain ⟨v, _, h2⟩ := h
  exact h2.below (Nat.le_refl _) (fun k e => by rw [e]; exact hb)
theorem Fm.off0 {W0 w : World} {b : Nat} {s q : Int} {l : List UInt8} (h : Fm W0 b s q l w) : Off (fun k => k = b) W0 w := by
  obtain ⟨v, _, h2⟩ := h
  exact h2

/-- New. -/
theorem new_ok (s : Int) (w : World) (h1 : 1 ≤ s) (h2 : s ≤ 100) : Calls Tryd.prog 14 #[.int .i64 s] w fun e w' => e = .returned (.tuple #[.pointer (some ⟨w.heap.size, 0, none⟩), .nilIface]) ∧ Fm0 w' w.heap.size s 0 ∧ Below w.heap.size w w' := by
  go_enter Tryd.func14, Tryd.ntmps14
  go_wp2
  go_ret2
  exact ⟨rfl, heap_alloc_new w _, below_new _ _⟩
def NewNo (w : World) (x c : Int) (e : Ending) (w' : World) : Prop := ∃ v, e = .returned (.tuple #[.pointer none, v]) ∧ RErr w' x c v ∧ Below w.heap.size w w'
theorem new_no (s : Int) (w : World) (h : s < 1 ∨ 100 < s) : Calls Tryd.prog 14 #[.int .i64 s] w (NewNo w s 1) := by
  rcases h with h | h <;> (
    go_enter Tryd.func14, Tryd.ntmps14
    go_wp2_with fail
    refine (rfault_any s 1 w).mono ?_
    rintro e w2 ⟨⟨x, rfl, hx⟩, hb⟩
    obtain ⟨bx, rfl⟩ := hx.form
    have HR : Hid (NewNo w s 1 (.returned (.tuple #[.pointer none, .iface 76 (.pointer (some ⟨bx, 0, none⟩))])) w2) := Lib.hid ⟨_, rfl, hx, hb⟩
    clear hx hb
    go_wp2
    go_ret2
    exact HR.out)

/-- Pending. -/
theorem pend_any (W0 w : World) (b : Nat) (s q : Int) (l : List UInt8) (h : Fm W0 b s q l w) : Calls Tryd.prog 23 #[.pointer (some ⟨b, 0, none⟩)] w fun e w' => e = .returned (.int .i64 (l.length : Int)) ∧ w = w' := by
  obtain ⟨v, h1, _⟩ := h
  have c2 := h1.c2
  obtain ⟨a, c, rfl⟩ := row_form h1.own
  clear h1
  go_enter Tryd.func23, Tryd.ntmps23
  go_wp2
  go_ret
  exact ⟨rfl, rfl⟩

theorem set_obj {w : World} {b i : Nat} {cs cs' : Array Value} {t : TypeId} {u : Value} (h : w.heap[b]? = some (.cells cs t (0, 0))) (hc : cs.setIfInBounds i u = cs') : (w.setCell ⟨b, i, none⟩ u).heap[b]? = some (.cells cs' t (0, 0)) := by
  rw [heap_set _ _ _ _ _ _ _ h, hc]

/-- Drop. -/
theorem drop_any (W0 w : World) (b : Nat) (s q : Int) (l : List UInt8) (h : Fm W0 b s q l w) : Calls Tryd.prog 20 #[.pointer (some ⟨b, 0, none⟩)] w fun e w' => e = .returned (.tuple #[]) ∧ Fm0 w' b s q ∧ Off (fun k => k = b) w w' := by
  obtain ⟨v, h1, _⟩ := h
  have f2 := h1.f 2
  have c2 := h1.c2
  have HO := Lib.hid h1.obj
  clear h1
  go_enter Tryd.func20, Tryd.ntmps20
  go_wp2
  go_end0
  exact ⟨rfl, set_obj HO.out rfl, Off.set _ _ ⟨b, 2, none⟩ _ rfl⟩
end Go.Proofs.YthcehcfeedikkaaDoor
