/- Three Writers side by side: what yardlaw2.WireBounds needs of them. -/
import Derived.Test.YtpdngcjgfngnjaaDoorFirst
namespace Go.Proofs.YtpdngcjgfngnjaaDoor
open Go.RowKit Go.Extern.Stop Go.Stop Go.Extern

/-- nothing written. -/
abbrev noRow : Value := .slice none 0 0
theorem putIs_none {w w' : World} {B b : Nat} {v : Value} {l : List UInt8} (h : WrAt w B b v l) (hb : Below w.heap.size w w') : PutIs w B b v l [] w' :=
  ⟨v, by rw [List.append_nil]; exact h.on hb, Off.of_below _ hb, fun _ hk => .inl hk⟩
/-- one Writer's writing leaves another one, that has written nothing, as it was. -/
theorem WrAt.beside {w w' : World} {B b : Nat} {l : List UInt8} (h : WrAt w B b noRow l) {B' b' : Nat} {l' m : List UInt8} (hp : PutIs w B' b' noRow l' m w') (hne : b ≠ b') : WrAt w' B b noRow l := by
  obtain ⟨_, _, hk, _⟩ := hp
  exact h.off hk (fun s => by rcases s with s | s; exact hne s; cases s) (fun k e => by cases e)
theorem PutIs.below {w w' W : World} {B b : Nat} {l m : List UInt8} (hp : PutIs w B b noRow l m w') (hw : Below W.heap.size W w) (hb : W.heap.size ≤ b) : Below W.heap.size W w' := by
  obtain ⟨_, _, hk, _⟩ := hp
  exact hw.trans (hk.below hw.size (fun k s => by rcases s with s | s; omega; cases s))
/-- Three Writers that have written one after the other. -/
theorem three {w1 w4 w5 w6 : World} {A S C : List UInt8} (h1 : PutIs (((w1.alloc (.cells #[noRow] 83)).alloc (.cells #[noRow] 83)).alloc (.cells #[noRow] 83)) w1.heap.size w1.heap.size noRow [] A w4)
    (h2 : PutIs w4 w1.heap.size (w1.heap.size + 1) noRow [] S w5) (h3 : PutIs w5 w1.heap.size (w1.heap.size + 1 + 1) noRow [] C w6) :
    ∃ va vb vc, WrAt w6 w1.heap.size w1.heap.size va A ∧ WrAt w6 w1.heap.size (w1.heap.size + 1) vb S ∧ WrAt w6 w1.heap.size (w1.heap.size + 1 + 1) vc C := by
  obtain ⟨va, ha, ka, oa⟩ := h1
  obtain ⟨vb, hb, kb, ob⟩ := h2
  obtain ⟨vc, hc, kc, oc⟩ := h3
  have ra : ∀ k, va.ownBlock = some k → w1.heap.size + 3 ≤ k := fun k hk => by
    rcases oa k hk with h | h
    · cases h
    · simpa using h
  have rb : ∀ k, vb.ownBlock = some k → w1.heap.size + 3 ≤ k := fun k hk => by
    rcases ob k hk with h | h
    · cases h
    · have h4 := ka.size
      simp at h4
      omega
  have ha5 : WrAt w5 w1.heap.size w1.heap.size va A := ha.off kb (fun s => by rcases s with s | s; omega; cases s) (fun k e s => by
    have := ra k e
    rcases s with s | s
    · omega
    · cases s)
  have ha6 : WrAt w6 w1.heap.size w1.heap.size va A := ha5.off kc (fun s => by rcases s with s | s; omega; cases s) (fun k e s => by
    have := ra k e
    rcases s with s | s
    · omega
    · cases s)
  have hb6 : WrAt w6 w1.heap.size (w1.heap.size + 1) vb S := hb.off kc (fun s => by rcases s with s | s; omega; cases s) (fun k e s => by
    have := rb k e
    rcases s with s | s
    · omega
    · cases s)
  exact ⟨va, vb, vc, ha6, hb6, hc⟩
theorem three_new (w1 : World) : WrAt (((w1.alloc (.cells #[noRow] 83)).alloc (.cells #[noRow] 83)).alloc (.cells #[noRow] 83)) w1.heap.size w1.heap.size noRow [] ∧
    WrAt (((w1.alloc (.cells #[noRow] 83)).alloc (.cells #[noRow] 83)).alloc (.cells #[noRow] 83)) w1.heap.size (w1.heap.size + 1) noRow [] ∧
    WrAt (((w1.alloc (.cells #[noRow] 83)).alloc (.cells #[noRow] 83)).alloc (.cells #[noRow] 83)) w1.heap.size (w1.heap.size + 1 + 1) noRow [] := by
  refine ⟨⟨Nat.le_refl _, ?_, World.ownsRow_nil _ _ _ _⟩, ⟨by omega, ?_, World.ownsRow_nil _ _ _ _⟩, ⟨by omega, ?_, World.ownsRow_nil _ _ _ _⟩⟩
  · rw [Below.heap_alloc _ _ _ (by simp; omega), Below.heap_alloc _ _ _ (by simp)]
    exact heap_alloc_new w1 _
  · rw [Below.heap_alloc _ _ _ (by simp)]
    simpa using heap_alloc_new (w1.alloc (.cells #[noRow] 83)) (.cells #[noRow] 83)
  · simpa using heap_alloc_new ((w1.alloc (.cells #[noRow] 83)).alloc (.cells #[noRow] 83)) (.cells #[noRow] 83)
theorem row_form {w : World} {base n : Nat} {v : Value} {xs : List Value} (h : w.ownsRow base 5 1 v n xs) : ∃ a c, v = .slice a n c := by
  rcases h.2 with ⟨hv, h0⟩ | ⟨g, cap, cur, hv, _⟩
  · exact ⟨none, 0, by rw [hv, h0]⟩
  · exact ⟨_, _, hv⟩
end Go.Proofs.YtpdngcjgfngnjaaDoor
