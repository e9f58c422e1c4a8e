/- Memory that stands but for some blocks; numbers, calls and polls as cells; a plan.Plan in memory. -/
import Derived.Test.YtcbiomcbkmdhaaaDoorBase
import Derived.BigQuiet
import Derived.Laws.Rows
import Derived.Laws.OwnMore
import Derived.Lib.Hide
namespace Go.Proofs.YtcbiomcbkmdhaaaDoor
open Go.RowKit Go.Extern.Stop Go.Stop Go.Extern

/-- All blocks that were there stand, but for those of S. -/
structure Off (S : Nat → Prop) (w w' : World) : Prop where
  os : w'.os = w.os
  tape : w'.tape = w.tape
  output : w'.output = w.output
  size : w.heap.size ≤ w'.heap.size
  block : ∀ k, k < w.heap.size → ¬ S k → w'.heap[k]? = w.heap[k]?
theorem Off.refl (S : Nat → Prop) (w : World) : Off S w w := ⟨rfl, rfl, rfl, Nat.le_refl _, fun _ _ _ => rfl⟩
theorem Off.trans {S : Nat → Prop} {a b c : World} (h : Off S a b) (k : Off S b c) : Off S a c :=
  ⟨k.os.trans h.os, k.tape.trans h.tape, k.output.trans h.output, Nat.le_trans h.size k.size, fun i hi hn => (k.block i (Nat.lt_of_lt_of_le hi h.size) hn).trans (h.block i hi hn)⟩
theorem Off.mono {S T : Nat → Prop} {a b : World} (h : Off S a b) (hs : ∀ k, k < a.heap.size → S k → T k) : Off T a b := ⟨h.os, h.tape, h.output, h.size, fun k hk hn => h.block k hk fun s => hn (hs k hk s)⟩
theorem Off.of_below (S : Nat → Prop) {a b : World} (h : Below a.heap.size a b) : Off S a b := ⟨h.os, h.tape, h.output, h.size, fun k hk _ => h.block k hk⟩
theorem Off.of_grown {a b : World} {row : Option Nat} (h : a.grownBy b row) : Off (fun k => row = some k) a b := ⟨h.os, h.tape, h.output, h.size, fun k hk hn => h.block k hk fun e => hn e.symm⟩
theorem Off.set (S : Nat → Prop) (w : World) (p : Addr) (u : Value) (hp : S p.block) : Off S w (w.setCell p u) :=
  ⟨rfl, rfl, rfl, by simp [World.setCell], fun k _ hk => Below.heap_setCell w p u k (fun e => hk (by rw [e]; exact hp))⟩
/-- What stands off S stands below B, where S lies from B on. -/
theorem Off.below {S : Nat → Prop} {a b : World} (h : Off S a b) {B : Nat} (hB : B ≤ a.heap.size) (hs : ∀ k, S k → B ≤ k) : Below B a b := ⟨h.os, h.tape, h.output, h.size, fun k hk => h.block k (by omega) fun s => by have := hs k s; omega⟩

theorem lt_heap {w : World} {k : Nat} {o : Obj} (h : w.heap[k]? = some o) : k < w.heap.size := by
  rcases Nat.lt_or_ge k w.heap.size with h' | h'
  · exact h'
  · simp [Array.getElem?_eq_none h'] at h
theorem ownsRow_off {w w' : World} {S : Nat → Prop} {base : Nat} {e : TypeId} {size : Nat} {v : Value} {n : Nat} {xs : List Value} (h : w.ownsRow base e size v n xs) (hb : Off S w w') (hs : ∀ k, v.ownBlock = some k → ¬ S k) : w'.ownsRow base e size v n xs := by
  obtain ⟨hl, h⟩ := h
  refine ⟨hl, ?_⟩
  rcases h with h | ⟨g, cap, cur, hv, hg, hh, h⟩
  · exact .inl h
  · exact .inr ⟨g, cap, cur, hv, hg, by rw [hb.block g (lt_heap hh) (hs g (by rw [hv]; rfl))]; exact hh, h⟩
theorem ownsRow_below {w w' : World} {base : Nat} {e : TypeId} {size : Nat} {v : Value} {n : Nat} {xs : List Value} (h : w.ownsRow base e size v n xs) (hb : Below w.heap.size w w') : w'.ownsRow base e size v n xs :=
  ownsRow_off h (Off.of_below (fun _ => False) hb) (fun _ _ f => f)
/-- A row is no block of another type. -/
theorem row_no {w : World} {base : Nat} {e : TypeId} {size : Nat} {v : Value} {n : Nat} {xs : List Value} (h : w.ownsRow base e size v n xs) {r : Nat} {cs : Array Value} {t : TypeId} {fr : Nat × Nat} (hr : w.heap[r]? = some (.cells cs t fr)) (ht : t ≠ e) : v.ownBlock ≠ some r := fun e' => by
  rcases h.2 with ⟨hv, _⟩ | ⟨g, cap, cur, hv, _, hh, _⟩
  · rw [hv] at e'; cases e'
  · rw [hv] at e'
    have : g = r := by simpa [Value.ownBlock] using e'
    rw [this, hr] at hh
    simp only [Option.some.injEq, Obj.cells.injEq] at hh
    exact ht hh.2.1
theorem heap_set (w : World) (r o : Nat) (cs : Array Value) (t : TypeId) (fr : Nat × Nat) (u : Value) (h : w.heap[r]? = some (.cells cs t fr)) : (w.setCell ⟨r, o, none⟩ u).heap[r]? = some (.cells (cs.setIfInBounds o u) t fr) := by
  simp [World.setCell, Array.getElem?_modify, h]

/-- Timers as cells. -/
def tcells : List (Int × Int) → List Value
  | [] => []
  | (i, a) :: l => .int .i64 i :: .int .i64 a :: tcells l
theorem tcells_length : ∀ l : List (Int × Int), (tcells l).length = l.length * 2
  | [] => rfl
  | (_, _) :: l => by simp only [tcells, List.length_cons, tcells_length l]; omega
theorem tcells_append : ∀ l m : List (Int × Int), tcells (l ++ m) = tcells l ++ tcells m
  | [], m => rfl
  | (_, _) :: l, m => by simp [tcells, tcells_append l m]
theorem tcells_get : ∀ (l : List (Int × Int)) (i : Nat) (h : i < l.length), (tcells l)[i * 2]? = some (.int .i64 l[i].1) ∧ (tcells l)[i * 2 + 1]? = some (.int .i64 l[i].2)
  | (_, _) :: _, 0, _ => ⟨rfl, rfl⟩
  | (_, _) :: l, i + 1, h => by
    have := tcells_get l i (by simpa using h)
    have e : (i + 1) * 2 = i * 2 + 1 + 1 := by omega
    rw [e]
    simpa [tcells] using this
theorem tcells_take : ∀ (l : List (Int × Int)) (i : Nat), (tcells l).take (i * 2) = tcells (l.take i)
  | [], i => by simp [tcells]
  | (_, _) :: l, 0 => by simp [tcells]
  | (_, _) :: l, i + 1 => by
    have e : (i + 1) * 2 = i * 2 + 1 + 1 := by omega
    rw [e]
    simp [tcells, tcells_take l i]
theorem tcells_drop : ∀ (l : List (Int × Int)) (i : Nat), (tcells l).drop (i * 2) = tcells (l.drop i)
  | [], i => by simp [tcells]
  | (_, _) :: l, 0 => by simp [tcells]
  | (_, _) :: l, i + 1 => by
    have e : (i + 1) * 2 = i * 2 + 1 + 1 := by omega
    rw [e]
    simp [tcells, tcells_drop l i]
theorem tcells_one : ∀ (l : List (Int × Int)), ∀ u ∈ tcells l, u.oneCell' = true
  | [], u, h => by cases h
  | (_, _) :: l, u, h => by
    simp only [tcells, List.mem_cons] at h
    rcases h with rfl | rfl | h
    · rfl
    · rfl
    · exact tcells_one l u h

/-- Numbers as cells. -/
def icells (l : List Int) : List Value := l.map fun x => .int .i64 x
theorem icells_length (l : List Int) : (icells l).length = l.length := by simp [icells]
theorem icells_get (l : List Int) (i : Nat) (h : i < l.length) : (icells l)[i]? = some (.int .i64 l[i]) := by simp [icells, h]
/-- A slice of numbers that lie somewhere. -/
def IntsAt (w : World) (v : Value) (l : List Int) : Prop :=
  ∃ ao cap, v = .slice ao l.length cap ∧ ∀ i (h : i < l.length), ∃ b off, ao = some ⟨b, off, none⟩ ∧ w.cell? ⟨b, off + i, none⟩ = some (.int .i64 l[i])
theorem lt_cell {w : World} {a : Addr} {v : Value} (h : w.cell? a = some v) : a.block < w.heap.size := by
  rcases Nat.lt_or_ge a.block w.heap.size with h' | h'
  · exact h'
  · simp [World.cell?, Array.getElem?_eq_none h'] at h
theorem IntsAt.on {w w' : World} {v : Value} {l : List Int} (h : IntsAt w v l) (hb : Below w.heap.size w w') : IntsAt w' v l := by
  obtain ⟨ao, cap, hv, hc⟩ := h
  refine ⟨ao, cap, hv, fun i hi => ?_⟩
  obtain ⟨b, off, ha, hcell⟩ := hc i hi
  exact ⟨b, off, ha, (hb.cell (p := ⟨b, off + i, none⟩) (lt_cell hcell)).trans hcell⟩
theorem intsAt_own {w : World} {base : Nat} {v : Value} {l : List Int} (h : w.ownsRow base 3 1 v l.length (icells l)) : IntsAt w v l := by
  rcases h.2 with ⟨hv, h0⟩ | ⟨g, cap, cur, hv, _⟩
  · exact ⟨none, 0, by rw [hv, h0], fun i hi => by omega⟩
  · refine ⟨some ⟨g, 0, none⟩, cap, hv, fun i hi => ?_⟩
    subst hv
    exact ⟨g, 0, rfl, by rw [Nat.zero_add]; exact (h.cellAt i (by omega)).trans (icells_get l i hi)⟩

theorem below_drewN' {B : Nat} {a w : World} (h : Below B a w) (n : Nat) : Below B a (w.drewN n) := ⟨h.os, h.tape, h.output, h.size, h.block⟩
theorem next_int (i : Nat) (h : i < 1000000) : Value.int .i64 (wrap64 ((i : Int) + 1)) = .int .i64 ((i + 1 : Nat) : Int) := by
  congr 1
  unfold wrap64
  omega
/-- yardlaw9.Op. -/
structure OpV where
  kind : Int
  n : Int
  a : Int
def OpsAt (w : World) (v : Value) (l : List OpV) : Prop :=
  ∃ ao cap, v = .slice ao l.length cap ∧ ∀ i (h : i < l.length), ∃ b off, ao = some ⟨b, off, none⟩ ∧ w.cell? ⟨b, off + i * 3, none⟩ = some (.int .i64 l[i].kind) ∧ w.cell? ⟨b, off + i * 3 + 1, none⟩ = some (.int .i64 l[i].n) ∧ w.cell? ⟨b, off + i * 3 + 2, none⟩ = some (.int .i64 l[i].a)
theorem OpsAt.on {w w' : World} {v : Value} {l : List OpV} (h : OpsAt w v l) (hb : Below w.heap.size w w') : OpsAt w' v l := by
  obtain ⟨ao, cap, hv, h⟩ := h
  refine ⟨ao, cap, hv, fun i hi => ?_⟩
  obtain ⟨b, off, ha, h0, h1, h2⟩ := h i hi
  exact ⟨b, off, ha, (hb.cell (p := ⟨b, off + i * 3, none⟩) (lt_cell h0)).trans h0, (hb.cell (p := ⟨b, off + i * 3 + 1, none⟩) (lt_cell h1)).trans h1, (hb.cell (p := ⟨b, off + i * 3 + 2, none⟩) (lt_cell h2)).trans h2⟩
/-- One call of the list, in every later world. -/
theorem OpsAt.each {w : World} {ao : Option Addr} {cap : Nat} {l : List OpV} (h : OpsAt w (.slice ao l.length cap) l) (i : Nat) (hi : i < l.length) : ∃ b off, ao = some ⟨b, off, none⟩ ∧
    ∀ W, Below w.heap.size w W → W.cell? ⟨b, off + i * 3, none⟩ = some (.int .i64 l[i].kind) ∧ W.cell? ⟨b, off + i * 3 + 1, none⟩ = some (.int .i64 l[i].n) ∧ W.cell? ⟨b, off + i * 3 + 2, none⟩ = some (.int .i64 l[i].a) := by
  obtain ⟨ao', cap', he, hc⟩ := h
  simp only [Value.slice.injEq] at he
  obtain ⟨rfl, _, rfl⟩ := he
  obtain ⟨b, off, ha, h0, h1, h2⟩ := hc i hi
  exact ⟨b, off, ha, fun W hb => ⟨(hb.cell (p := ⟨b, off + i * 3, none⟩) (lt_cell h0)).trans h0, (hb.cell (p := ⟨b, off + i * 3 + 1, none⟩) (lt_cell h1)).trans h1, (hb.cell (p := ⟨b, off + i * 3 + 2, none⟩) (lt_cell h2)).trans h2⟩⟩
/-- One number of a row, in every later world. -/
theorem IntsAt.each {w : World} {ao : Option Addr} {cap : Nat} {l : List Int} (h : IntsAt w (.slice ao l.length cap) l) (i : Nat) (hi : i < l.length) : ∃ b off, ao = some ⟨b, off, none⟩ ∧ ∀ W, Below w.heap.size w W → W.cell? ⟨b, off + i, none⟩ = some (.int .i64 l[i]) := by
  obtain ⟨ao', cap', he, hc⟩ := h
  simp only [Value.slice.injEq] at he
  obtain ⟨rfl, _, rfl⟩ := he
  obtain ⟨b, off, ha, h0⟩ := hc i hi
  exact ⟨b, off, ha, fun W hb => (hb.cell (p := ⟨b, off + i, none⟩) (lt_cell h0)).trans h0⟩
theorem row_slice' {w : World} {B : Nat} {e : TypeId} {size : Nat} {v : Value} {n : Nat} {xs : List Value} (h : w.ownsRow B e size v n xs) : ∃ ao cap, v = .slice ao n cap := by
  rcases h.2 with ⟨hv, h0⟩ | ⟨g, cap, cur, hv, _⟩
  · exact ⟨none, 0, by rw [hv, h0]⟩
  · exact ⟨_, cap, hv⟩
theorem timers_news {w : World} {ts : List (Int × Int)} {g : Nat} (h : ∀ i (_ : i < ts.length), w.cell? ⟨g, i * 2, none⟩ = some (.int .i64 ts[i].1) ∧ w.cell? ⟨g, i * 2 + 1, none⟩ = some (.int .i64 ts[i].2)) :
    ∀ j u, (tcells ts)[j]? = some u → w.cell? ((⟨g, 0, none⟩ : Addr).add j) = some u := fun j u hj => by
  have hlt : j < ts.length * 2 := by
    rcases Nat.lt_or_ge j (ts.length * 2) with h' | h'
    · exact h'
    · rw [List.getElem?_eq_none (by rw [tcells_length]; exact h')] at hj; cases hj
  have hg := tcells_get ts (j / 2) (by omega)
  have hc := h (j / 2) (by omega)
  rw [Addr.add_lit, Nat.zero_add]
  rcases Nat.mod_two_eq_zero_or_one j with h2 | h2
  · rw [show j = j / 2 * 2 by omega] at hj ⊢
    rw [hg.1] at hj
    rw [← hj]; exact hc.1
  · rw [show j = j / 2 * 2 + 1 by omega] at hj ⊢
    rw [hg.2] at hj
    rw [← hj]; exact hc.2

theorem below_nw (w : World) (o : Obj) : Below w.heap.size w (w.alloc o) := (Below.refl _ _).alloc (Nat.le_refl _) _
theorem below_drew (w : World) (n : Nat) : Below w.heap.size w (w.drewN n) := below_drewN' (Below.refl _ _) n
/-- A plan.Plan: its polls (how often, when due) in a row of its own. -/
structure PlAt (w : World) (B p : Nat) (v : Value) (ts : List (Int × Int)) : Prop where
  base : B ≤ p
  obj : w.heap[p]? = some (.cells #[v] 54 (0, 0))
  own : w.ownsRow B 52 2 v ts.length (tcells ts)
section
variable {w w' : World} {B p : Nat} {v : Value} {ts : List (Int × Int)}
theorem PlAt.c0 (h : PlAt w B p v ts) : w.cell? ⟨p, 0, none⟩ = some v := by rw [cell_of_row _ _ _ _ _ _ h.obj]; rfl
theorem PlAt.lt (h : PlAt w B p v ts) : p < w.heap.size := lt_heap h.obj
theorem PlAt.rlt (h : PlAt w B p v ts) : ∀ k, v.ownBlock = some k → B ≤ k ∧ k < w.heap.size := h.own.lt
theorem PlAt.ne (h : PlAt w B p v ts) : v.ownBlock ≠ some p := row_no h.own h.obj (by decide)
/-- The slice of a Plan's polls: a form, and its cells. -/
theorem PlAt.form (h : PlAt w B p v ts) : ∃ ao cap, v = .slice ao ts.length cap ∧ ts.length ≤ cap ∧ cap ≤ maxLen ∧ ∀ i (hi : i < ts.length), ∃ g, ao = some ⟨g, 0, none⟩ ∧ w.cell? ⟨g, i * 2, none⟩ = some (.int .i64 ts[i].1) ∧ w.cell? ⟨g, i * 2 + 1, none⟩ = some (.int .i64 ts[i].2) := by
  have ho := h.own
  rcases ho.2 with ⟨hv, h0⟩ | ⟨g, cap, cur, hv, _, _, hc, hm, _⟩
  · exact ⟨none, 0, by rw [hv, h0], by omega, by simp [maxLen], fun i hi => by omega⟩
  · refine ⟨some ⟨g, 0, none⟩, cap, hv, hc, hm, fun i hi => ?_⟩
    subst hv
    have hgt := tcells_get ts i hi
    exact ⟨g, rfl, (ho.cellAt (i * 2) (by omega)).trans hgt.1, (ho.cellAt (i * 2 + 1) (by omega)).trans hgt.2⟩
end
/-- A Plan behind B: what was there when it was made stands below B. Nothing is said of its row's place. -/
def Pl (W0 : World) (p : Nat) (ts : List (Int × Int)) (w : World) : Prop := ∃ v, PlAt w W0.heap.size p v ts ∧ Below W0.heap.size W0 w
theorem PlAt.off {w w' : World} {B p : Nat} {v : Value} {ts : List (Int × Int)} {S : Nat → Prop} (h : PlAt w B p v ts) (hk : Off S w w') (hr : ¬ S p) (hv : ∀ k, v.ownBlock = some k → ¬ S k) : PlAt w' B p v ts :=
  ⟨h.base, (hk.block p h.lt hr).trans h.obj, ownsRow_off h.own hk hv⟩
theorem PlAt.on {w w' : World} {B p : Nat} {v : Value} {ts : List (Int × Int)} (h : PlAt w B p v ts) (hb : Below w.heap.size w w') : PlAt w' B p v ts := h.off (Off.of_below (fun _ => False) hb) (fun f => f) (fun _ _ f => f)
theorem Pl.on {W0 w w' : World} {p : Nat} {ts : List (Int × Int)} (h : Pl W0 p ts w) (hb : Below w.heap.size w w') : Pl W0 p ts w' := by
  obtain ⟨v, h1, h2⟩ := h
  exact ⟨v, h1.on hb, h2.trans (hb.mono (by have := h1.lt; have := h1.base; omega))⟩
/-- An error of the package. -/
def sPlan : ByteArray := ⟨#[112, 108, 97, 110]⟩
def PErr (w : World) (x c : Int) (v : Value) : Prop := ∃ b : Nat, v = .iface 70 (.pointer (some ⟨b, 0, none⟩)) ∧ w.heap[b]? = some (.cells #[.string sPlan, .int .i64 x, .iface 32 (.int .i64 c)] 73 (0, 0))
theorem PErr.on {w w' : World} {x c : Int} {v : Value} (h : PErr w x c v) (hb : Below w.heap.size w w') : PErr w' x c v := by
  obtain ⟨b, h1, h2⟩ := h
  exact ⟨b, h1, (hb.block b (lt_heap h2)).trans h2⟩
theorem PErr.form {w : World} {x c : Int} {v : Value} (h : PErr w x c v) : ∃ b : Nat, v = .iface 70 (.pointer (some ⟨b, 0, none⟩)) := by
  obtain ⟨b, h1, _⟩ := h
  exact ⟨b, h1⟩
end Go.Proofs.YtcbiomcbkmdhaaaDoor
