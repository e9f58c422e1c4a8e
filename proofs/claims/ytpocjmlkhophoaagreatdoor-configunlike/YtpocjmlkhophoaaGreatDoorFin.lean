/- A box that is written cell by cell. -/
import Derived.Test.YtpocjmlkhophoaaGreatDoorCopyC
namespace Go.Proofs.YtpocjmlkhophoaaGreatDoor
open Go.RowKit Go.Extern.Stop Go.Stop Go.Extern

def setAll (k : Nat) : World → Nat → List Value → World
  | w, _, [] => w
  | w, o, v :: vs => setAll k (w.setCell ⟨k, o, none⟩ v) (o + 1) vs
def setArr : Array Value → Nat → List Value → Array Value
  | cs, _, [] => cs
  | cs, o, v :: vs => setArr (cs.setIfInBounds o v) (o + 1) vs
theorem setAll_heap {k : Nat} {t : TypeId} {fr : Nat × Nat} : ∀ (vs : List Value) (w : World) (cs : Array Value) (o : Nat), w.heap[k]? = some (.cells cs t fr) → (setAll k w o vs).heap[k]? = some (.cells (setArr cs o vs) t fr)
  | [], _, _, _, h => h
  | v :: vs, w, cs, o, h => setAll_heap vs (w.setCell ⟨k, o, none⟩ v) (cs.setIfInBounds o v) (o + 1) (heap_set w k o cs t fr v h)
theorem setAll_off (k : Nat) : ∀ (vs : List Value) (w : World) (o : Nat), Off (fun i => i = k) w (setAll k w o vs)
  | [], w, _ => Off.refl _ w
  | v :: vs, w, o => (Off.set (fun i => i = k) w ⟨k, o, none⟩ v rfl).trans (setAll_off k vs (w.setCell ⟨k, o, none⟩ v) (o + 1))
theorem setAll_below {B k : Nat} (h : B ≤ k) (vs : List Value) (w : World) (o : Nat) : Below B w (setAll k w o vs) := by
  have h1 := setAll_off k vs w o
  exact ⟨h1.os, h1.tape, h1.output, h1.size, fun i hi => by
    rcases Nat.lt_or_ge i w.heap.size with hlt | hge
    · exact h1.block i hlt (by omega)
    · rcases Nat.lt_or_ge k w.heap.size with hk | hk
      · omega
      · have := h1.size
        by_cases he : i < (setAll k w o vs).heap.size
        · have hs : ∀ (vs : List Value) (w : World) (o : Nat), (setAll k w o vs).heap.size = w.heap.size := by
            intro vs
            induction vs with
            | nil => intro w o; rfl
            | cons v vs ih => intro w o; simp only [setAll]; rw [ih]; simp [World.setCell]
          rw [hs] at he
          omega
        · rw [Array.getElem?_eq_none (by omega), Array.getElem?_eq_none hge]⟩
/-- a row of another type stands. -/
theorem own_setAll {w : World} {B : Nat} {e s n : Nat} {v : Value} {xs : List Value} (h : w.ownsRow B e s v n xs) {k o : Nat} {cs : Array Value} {t : Nat} {fr : Nat × Nat} (hr : w.heap[k]? = some (.cells cs t fr)) (ht : t ≠ e) (vs : List Value) : (setAll k w o vs).ownsRow B e s v n xs :=
  ownsRow_off h (setAll_off k vs w o) (fun i hi he => row_apart h hr ht (by rw [hi, he]))
theorem cells_of {w : World} {k : Nat} {cs : Array Value} {t : TypeId} (h : w.heap[k]? = some (.cells cs t (0, 0))) (o : Nat) (u : Value) (hu : cs[o]? = some u) : w.cell? ⟨k, o, none⟩ = some u := by
  rw [cell_of_row _ _ _ _ _ _ h]
  exact hu
end Go.Proofs.YtpocjmlkhophoaaGreatDoor
