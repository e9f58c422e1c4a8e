/- What else stands when a row of one's own grows; a third box beside two. -/
import Derived.Test.YtpocjmlkhophoaaGreatDoorLdc
import Derived.Test.YtpocjmlkhophoaaGreatDoorSam
namespace Go.Proofs.YtpocjmlkhophoaaGreatDoor
open Go.RowKit Go.Extern.Stop Go.Stop Go.Extern

theorem rows_apart {w : World} {B B2 : Nat} {e e2 k k2 n n2 : Nat} {v v2 : Value} {cs cs2 : List Value} (h : w.ownsRow B e k v n cs) (h2 : w.ownsRow B2 e2 k2 v2 n2 cs2) (hne : e2 ≠ e) (i : Nat) (h1 : v2.ownBlock = some i) : v.ownBlock ≠ some i := by
  rcases h2.2 with ⟨rfl, _⟩ | ⟨g, cap, cur, rfl, _, hh, _⟩
  · cases h1
  · have : g = i := by simpa [Value.ownBlock] using h1
    subst this
    exact row_apart h hh hne
theorem GrownIs.row2 {W w' : World} {B B2 e e2 k k2 n n0 n2 : Nat} {xo v' v2 : Value} {cs cs0 cs2 : List Value} (h : GrownIs W B e k xo n cs v' w') (h0 : W.ownsRow B e k xo n0 cs0) (h2 : W.ownsRow B2 e2 k2 v2 n2 cs2) (hne : e2 ≠ e) : w'.ownsRow B2 e2 k2 v2 n2 cs2 :=
  ownsRow_off h2 h.2.1 (fun i hi hs => rows_apart h0 h2 hne i hi hs)
theorem GrownIs.box {W w' : World} {B e k n n0 : Nat} {xo v' : Value} {cs cs0 : List Value} (h : GrownIs W B e k xo n cs v' w') (h0 : W.ownsRow B e k xo n0 cs0) {r : Nat} {us : Array Value} {t : Nat} (hr : W.heap[r]? = some (.cells us t (0, 0))) (ht : t ≠ e) : w'.heap[r]? = some (.cells us t (0, 0)) :=
  (h.2.1.block r (lt_heap hr) (row_apart h0 hr ht)).trans hr
/-- a store into a third box. -/
theorem box_set {w : World} {r o k : Nat} {u : Value} {us : Array Value} {t : Nat} (hr : w.heap[r]? = some (.cells us t (0, 0))) (hne : r ≠ k) : (w.setCell ⟨k, o, none⟩ u).heap[r]? = some (.cells us t (0, 0)) := by
  rw [Below.heap_setCell w ⟨k, o, none⟩ u r (by simpa using hne)]
  exact hr
/-- Two configurations' boxes and lists as they came, and a third one with lists of the call's own. -/
structure ThreeIn (w : World) (B g h k : Nat) (c d x : Cfg) (sl po pt ct sl2 po2 pt2 ct2 v1 v2 v3 v4 : Value) (wr : World) : Prop where
  two : TwoIn w g h c d sl po pt ct sl2 po2 pt2 ct2 wr
  b3 : CfgBox wr k x v1 v2 v3 v4
  l3 : ListsAt wr x v1 v2 v3 v4
theorem ThreeIn.on {w : World} {B g h k : Nat} {c d x : Cfg} {sl po pt ct sl2 po2 pt2 ct2 v1 v2 v3 v4 : Value} {wr w' : World} (h' : ThreeIn w B g h k c d x sl po pt ct sl2 po2 pt2 ct2 v1 v2 v3 v4 wr) (hb : Below wr.heap.size wr w') : ThreeIn w B g h k c d x sl po pt ct sl2 po2 pt2 ct2 v1 v2 v3 v4 w' := ⟨h'.two.on hb, h'.b3.on hb, h'.l3.on hb⟩
theorem below_two {B C : Nat} {W W1 w5 : World} (h3 : B ≤ C) (hW : C ≤ W.heap.size) (h1 : Below W.heap.size W W1) (h2 : Below C W1 w5) : Below B W w5 := ((h1.mono hW).trans h2).mono h3
theorem wrap_ne {a m : Int} (hm : I64 m) (h0 : m ≠ 0) : wrap64 (a + m) ≠ a := by
  unfold I64 at hm
  unfold wrap64
  omega
end Go.Proofs.YtpocjmlkhophoaaGreatDoor
