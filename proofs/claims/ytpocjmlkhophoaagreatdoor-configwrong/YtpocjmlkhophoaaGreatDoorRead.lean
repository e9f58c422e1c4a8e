/- wire.Reader in memory: NewReader, Left, Place, fault, take: what they answer, what they turn, for every row of bytes and every place. -/
import Derived.Test.YtpocjmlkhophoaaGreatDoorNum
import Derived.Test.YtpocjmlkhophoaaGreatDoorAs
import Derived.BigQuiet
import Derived.Laws.Rows
namespace Go.Proofs.YtpocjmlkhophoaaGreatDoor
open Go.RowKit Go.Extern.Stop Go.Stop Go.Extern

/-- All blocks that were there stand, but for those of S. -/
structure Off (S : Nat → Prop) (w w' : World) : Prop where
  os : w'.os = w.os
  tape : w'.tape = w.tape
  output : w'.output = w.output
  size : w.heap.size ≤ w'.heap.size
  block : ∀ k, k < w.heap.size → ¬ S k → w'.heap[k]? = w.heap[k]?
theorem Off.refl (S : Nat → Prop) (w : World) : Off S w w := ⟨rfl, rfl, rfl, Nat.le_refl _, fun _ _ _ => rfl⟩
theorem Off.trans {S : Nat → Prop} {a b c : World} (h : Off S a b) (k : Off S b c) : Off S a c :=
  ⟨k.os.trans h.os, k.tape.trans h.tape, k.output.trans h.output, Nat.le_trans h.size k.size, fun i hi hn => (k.block i (Nat.lt_of_lt_of_le hi h.size) hn).trans (h.block i hi hn)⟩
theorem Off.mono {S T : Nat → Prop} {a b : World} (h : Off S a b) (hs : ∀ k, k < a.heap.size → S k → T k) : Off T a b := ⟨h.os, h.tape, h.output, h.size, fun k hk hn => h.block k hk fun s => hn (hs k hk s)⟩
theorem Off.of_below (S : Nat → Prop) {a b : World} (h : Below a.heap.size a b) : Off S a b := ⟨h.os, h.tape, h.output, h.size, fun k hk _ => h.block k hk⟩
theorem Off.of_grown {a b : World} {row : Option Nat} (h : a.grownBy b row) : Off (fun k => row = some k) a b := ⟨h.os, h.tape, h.output, h.size, fun k hk hn => h.block k hk fun e => hn e.symm⟩
theorem Off.set (S : Nat → Prop) (w : World) (p : Addr) (u : Value) (hp : S p.block) : Off S w (w.setCell p u) :=
  ⟨rfl, rfl, rfl, by simp [World.setCell], fun k _ hk => Below.heap_setCell w p u k (fun e => hk (by rw [e]; exact hp))⟩
/-- What stands off S stands below B, where S lies from B on. -/
theorem Off.below {S : Nat → Prop} {a b : World} (h : Off S a b) {B : Nat} (hB : B ≤ a.heap.size) (hs : ∀ k, S k → B ≤ k) : Below B a b := ⟨h.os, h.tape, h.output, h.size, fun k hk => h.block k (by omega) fun s => by have := hs k s; omega⟩

theorem lt_heap {w : World} {k : Nat} {o : Obj} (h : w.heap[k]? = some o) : k < w.heap.size := by
  rcases Nat.lt_or_ge k w.heap.size with h' | h'
  · exact h'
  · simp [Array.getElem?_eq_none h'] at h
theorem ownsRow_off {w w' : World} {S : Nat → Prop} {base : Nat} {e : TypeId} {size : Nat} {v : Value} {n : Nat} {xs : List Value} (h : w.ownsRow base e size v n xs) (hb : Off S w w') (hs : ∀ k, v.ownBlock = some k → ¬ S k) : w'.ownsRow base e size v n xs := by
  obtain ⟨hl, h⟩ := h
  refine ⟨hl, ?_⟩
  rcases h with h | ⟨g, cap, cur, hv, hg, hh, h⟩
  · exact .inl h
  · exact .inr ⟨g, cap, cur, hv, hg, by rw [hb.block g (lt_heap hh) (hs g (by rw [hv]; rfl))]; exact hh, h⟩
/-- A row of bytes is no block of another type. -/
theorem row_no {w : World} {base : Nat} {v : Value} {n : Nat} {xs : List Value} (h : w.ownsRow base 5 1 v n xs) {r : Nat} {cs : Array Value} {t : TypeId} {fr : Nat × Nat} (hr : w.heap[r]? = some (.cells cs t fr)) (ht : t ≠ 5) : v.ownBlock ≠ some r := fun e => by
  rcases h.2 with ⟨hv, _⟩ | ⟨g, cap, cur, hv, _, hh, _⟩
  · rw [hv] at e; cases e
  · rw [hv] at e
    have : g = r := by simpa [Value.ownBlock] using e
    rw [this, hr] at hh
    simp only [Option.some.injEq, Obj.cells.injEq] at hh
    exact ht hh.2.1
theorem heap_set (w : World) (r o : Nat) (cs : Array Value) (t : TypeId) (fr : Nat × Nat) (u : Value) (h : w.heap[r]? = some (.cells cs t fr)) : (w.setCell ⟨r, o, none⟩ u).heap[r]? = some (.cells (cs.setIfInBounds o u) t fr) := by
  simp [World.setCell, Array.getElem?_modify, h]

/-- A Reader: its own row of bytes, and where it stands. -/
structure RdAt (w : World) (B r : Nat) (v : Value) (l : List UInt8) (p : Nat) : Prop where
  base : B ≤ r
  le : p ≤ l.length
  len : l.length ≤ 140737488355328
  obj : w.heap[r]? = some (.cells #[v, .int .i64 (p : Int)] 216 (0, 0))
  own : w.ownsRow B 5 1 v l.length (bcells l)
theorem RdAt.c0 {w : World} {B r : Nat} {v : Value} {l : List UInt8} {p : Nat} (h : RdAt w B r v l p) : w.cell? ⟨r, 0, none⟩ = some v := by rw [cell_of_row _ _ _ _ _ _ h.obj]; rfl
theorem RdAt.c1 {w : World} {B r : Nat} {v : Value} {l : List UInt8} {p : Nat} (h : RdAt w B r v l p) : w.cell? ⟨r, 1, none⟩ = some (.int .i64 (p : Int)) := by rw [cell_of_row _ _ _ _ _ _ h.obj]; rfl
theorem RdAt.f1 {w : World} {B r : Nat} {v : Value} {l : List UInt8} {p : Nat} (h : RdAt w B r v l p) : w.frozen? ⟨r, 1, none⟩ = false := frozen_of_row _ _ _ _ _ h.obj
theorem RdAt.lt {w : World} {B r : Nat} {v : Value} {l : List UInt8} {p : Nat} (h : RdAt w B r v l p) : r < w.heap.size := lt_heap h.obj
theorem RdAt.off {w w' : World} {S : Nat → Prop} {B r : Nat} {v : Value} {l : List UInt8} {p : Nat} (h : RdAt w B r v l p) (hk : Off S w w') (hr : ¬ S r) (hv : ∀ k, v.ownBlock = some k → ¬ S k) : RdAt w' B r v l p :=
  ⟨h.base, h.le, h.len, (hk.block r h.lt hr).trans h.obj, ownsRow_off h.own hk hv⟩
theorem RdAt.on {w w' : World} {B r : Nat} {v : Value} {l : List UInt8} {p : Nat} (h : RdAt w B r v l p) (hk : Below w.heap.size w w') : RdAt w' B r v l p := h.off (Off.of_below (fun _ => False) hk) (fun f => f) (fun _ _ f => f)
/-- A Reader of blocks from B on does not see what turns below B. -/
theorem RdAt.up {w w' : World} {S : Nat → Prop} {B r : Nat} {v : Value} {l : List UInt8} {p : Nat} (h : RdAt w B r v l p) (hk : Off S w w') (hs : ∀ k, S k → k < B) : RdAt w' B r v l p :=
  h.off hk (fun s => Nat.lt_irrefl r (Nat.lt_of_lt_of_le (hs r s) h.base)) (fun k e s => Nat.lt_irrefl k (Nat.lt_of_lt_of_le (hs k s) (h.own.lt k e).1))
theorem RdAt.move {w : World} {B r : Nat} {v : Value} {l : List UInt8} {p q : Nat} (h : RdAt w B r v l p) (hq : q ≤ l.length) : RdAt (w.setCell ⟨r, 1, none⟩ (.int .i64 (q : Int))) B r v l q :=
  ⟨h.base, hq, h.len, by rw [heap_set _ _ _ _ _ _ _ h.obj]; rfl, ownsRow_off h.own (Off.set (fun k => k = r) w ⟨r, 1, none⟩ _ rfl) (fun k e s => row_no h.own h.obj (by decide) (by rw [e, s]))⟩
theorem RdAt.bytes {w : World} {B r : Nat} {v : Value} {l : List UInt8} {p : Nat} (h : RdAt w B r v l p) : ∃ ao cap, v = .slice ao l.length cap := by
  obtain ⟨ao, cap, hv, _⟩ := bytesAt_own h.own
  exact ⟨ao, cap, hv⟩

def sWire : ByteArray := ⟨#[119, 105, 114, 101]⟩
/-- An error of wire's, wrapped once. -/
def WireErr (w : World) (p : Nat) (c : Int) (v : Value) : Prop := Chain w (.iface 32 (.int .i64 c)) [(sWire, (p : Int))] v
theorem wireErr_new (w : World) (p : Nat) (c : Int) : WireErr (w.alloc (.cells #[.string sWire, .int .i64 (p : Int), .iface 32 (.int .i64 c)] 148)) p c (.iface 145 (.pointer (some ⟨w.heap.size, 0, none⟩))) :=
  ⟨w.heap.size, _, rfl, by simp, by simp, by simp, by simp, rfl⟩

theorem ret_sub {a b : Nat} (h : b ≤ a) : Ending.returned (.int .i64 ((a : Int) - (b : Int))) = .returned (.int .i64 ((a - b : Nat) : Int)) := by
  congr 2
  omega
theorem below_drew (w : World) (n : Nat) : Below w.heap.size w (w.drewN n) := ⟨rfl, rfl, rfl, Nat.le_refl _, fun _ _ => rfl⟩

set_option maxRecDepth 100000 in
/-- NewReader: a Reader of blocks of its own, at the beginning. -/
theorem new_reader (v0 : Value) (l : List UInt8) (w : World) (hv : BytesAt w v0 l) (hl : l.length ≤ 140737488355328) :
    Calls Tryz.prog 139 #[v0] w fun e w' => ∃ r v, e = .returned (.pointer (some ⟨r, 0, none⟩)) ∧ RdAt w' w.heap.size r v l 0 ∧ Below w.heap.size w w' := by
  have HV := Lib.hid hv
  have HL := Lib.hid hl
  obtain ⟨ao, cap, rfl, _⟩ := hv
  clear hl
  go_enter Tryz.func139, Tryz.ntmps139
  go_wp2_with fail
  refine (clone_any _ l w HV.out HL.out).mono ?_
  rintro e w1 ⟨v, rfl, hown, hb⟩
  obtain ⟨av, cv, rfl, _⟩ := bytesAt_own hown
  have HO := Lib.hid hown
  have HB := Lib.hid hb
  clear hown hb
  go_wp2
  go_ret
  have hb1 : Below w1.heap.size w1 (w1.alloc (.cells #[.slice av l.length cv, .int .i64 0] 216)) := (Below.refl _ _).alloc (Nat.le_refl _) _
  exact ⟨_, _, rfl, ⟨HB.out.size, Nat.zero_le _, HL.out, heap_alloc_new w1 _, ownsRow_off HO.out (Off.of_below (fun _ => False) hb1) (fun _ _ f => f)⟩, HB.out.trans (hb1.mono HB.out.size)⟩

theorem place_any (B r : Nat) (v : Value) (l : List UInt8) (p : Nat) (w : World) (h : RdAt w B r v l p) : Calls Tryz.prog 151 #[.pointer (some ⟨r, 0, none⟩)] w fun e w' => e = .returned (.int .i64 (p : Int)) ∧ w = w' := by
  have c1 := h.c1
  clear h
  go_enter Tryz.func151, Tryz.ntmps151
  go_wp2
  go_ret
  exact ⟨rfl, rfl⟩

set_option maxRecDepth 100000 in
theorem left_any (B r : Nat) (v : Value) (l : List UInt8) (p : Nat) (w : World) (h : RdAt w B r v l p) : Calls Tryz.prog 152 #[.pointer (some ⟨r, 0, none⟩)] w fun e w' => e = .returned (.int .i64 ((l.length - p : Nat) : Int)) ∧ Below w.heap.size w w' := by
  have c0 := h.c0
  have c1 := h.c1
  obtain ⟨ao, cap, rfl⟩ := h.bytes
  have h1 := h.le
  have h2 := h.len
  clear h
  go_enter Tryz.func152, Tryz.ntmps152
  go_wp2_with fail
  go_quiet (fail)
  go_wp2
  go_ret
  exact ⟨ret_sub h1, below_drew w nq⟩

/-- fault: an error of wire's with the place. -/
theorem fault_any (B r : Nat) (v : Value) (l : List UInt8) (p : Nat) (c : Int) (w : World) (h : RdAt w B r v l p) : Calls Tryz.prog 164 #[.pointer (some ⟨r, 0, none⟩), .int .i64 c] w fun e w' => ∃ x, e = .returned x ∧ WireErr w' p c x ∧ Below w.heap.size w w' := by
  have c1 := h.c1
  clear h
  go_enter Tryz.func164, Tryz.ntmps164
  go_wp2_with fail
  refine (in_some _ _ _ _ _).mono ?_
  rintro e w1 ⟨rfl, rfl⟩
  go_wp2
  go_ret
  exact ⟨_, rfl, wireErr_new w p c, (Below.refl _ _).alloc (Nat.le_refl _) _⟩

set_option maxRecDepth 100000 in
/-- take, where too few bytes are left. -/
theorem take_short (B r : Nat) (v : Value) (l : List UInt8) (p : Nat) (n : Int) (w : World) (h : RdAt w B r v l p) (hn : ((l.length - p : Nat) : Int) < n) :
    Calls Tryz.prog 165 #[.pointer (some ⟨r, 0, none⟩), .int .i64 n] w fun e w' => ∃ x, e = .returned (.tuple #[.slice none 0 0, x]) ∧ WireErr w' p 2 x ∧ Below w.heap.size w w' := by
  have H := Lib.hid h
  clear h
  go_enter Tryz.func165, Tryz.ntmps165
  go_wp2_with fail
  refine (left_any B r v l p w H.out).mono ?_
  rintro e w1 ⟨rfl, hb⟩
  have HB := Lib.hid hb
  clear hb
  go_wp2_with fail
  refine (fault_any B r v l p 2 w1 (H.out.on HB.out)).mono ?_
  rintro e w2 ⟨x, rfl, hx, hb⟩
  obtain ⟨_, _, rfl, _⟩ := id hx
  have HX := Lib.hid hx
  have HB2 := Lib.hid (HB.out.trans (hb.mono HB.out.size))
  clear hb hx
  go_wp2
  go_ret2
  exact ⟨_, rfl, HX.out, HB2.out⟩

theorem take_end {w w1 : World} {B r : Nat} {v : Value} {l : List UInt8} {p : Nat} (n : Nat) (h : RdAt w1 B r v l p) (hb : Below w.heap.size w w1) (hn : p + n ≤ l.length) (q : Nat) :
    RdAt ((w1.drewN q).setCell ⟨r, 1, none⟩ (.int .i64 ((p : Int) + (n : Int)))) B r v l (p + n) ∧ Off (fun k => k = r) w ((w1.drewN q).setCell ⟨r, 1, none⟩ (.int .i64 ((p : Int) + (n : Int)))) := by
  have h' := (h.on (below_drew w1 q)).move (q := p + n) hn
  rw [show ((p : Int) + (n : Int)) = ((p + n : Nat) : Int) by omega]
  exact ⟨h', ((Off.of_below _ hb).trans (Off.of_below _ (below_drew w1 q))).trans (Off.set _ _ ⟨r, 1, none⟩ _ rfl)⟩
theorem cut_bytes {W : World} {base g cap : Nat} {l : List UInt8} (h : W.ownsRow base 5 1 (.slice (some ⟨g, 0, none⟩) l.length cap) l.length (bcells l)) (p n c : Nat) (hn : p + n ≤ l.length) : BytesAt W (.slice (some ⟨g, p, none⟩) n c) ((l.drop p).take n) := by
  have hl : ((l.drop p).take n).length = n := by simp; omega
  refine ⟨some ⟨g, p, none⟩, c, by rw [hl], fun i hi => ⟨g, p, rfl, ?_⟩⟩
  rw [hl] at hi
  have := (h.cellAt (p + i) (by omega)).trans (bcells_get l (p + i) (by omega))
  rw [this]
  simp
theorem none_bytes (W : World) (ao : Option Addr) (c : Nat) (l : List UInt8) : BytesAt W (.slice ao 0 c) (l.take 0) := ⟨ao, c, by simp, fun i hi => by simp at hi⟩

set_option maxRecDepth 100000 in
set_option maxHeartbeats 1000000 in
/-- take, where they are there. -/
theorem take_ok (B r : Nat) (v : Value) (l : List UInt8) (p n : Nat) (w : World) (h : RdAt w B r v l p) (hn : p + n ≤ l.length) :
    Calls Tryz.prog 165 #[.pointer (some ⟨r, 0, none⟩), .int .i64 (n : Int)] w fun e w' => (∃ x, e = .returned (.tuple #[x, .nilIface]) ∧ BytesAt w' x ((l.drop p).take n)) ∧ RdAt w' B r v l (p + n) ∧ Off (fun k => k = r) w w' := by
  have H := Lib.hid h
  have h1 := h.le
  have h2 := h.len
  clear h
  go_enter Tryz.func165, Tryz.ntmps165
  go_wp2_with fail
  refine (left_any B r v l p w H.out).mono ?_
  rintro e w1 ⟨rfl, hb⟩
  have HB := Lib.hid hb
  have H1 := Lib.hid (H.out.on hb)
  clear hb
  have c0 := H1.out.c0
  have c1 := H1.out.c1
  have f1 := H1.out.f1
  rcases H1.out.own.2 with ⟨hv, hl0⟩ | ⟨g, cap, cur, hv, _, _, hcap, hcap2, _⟩
  · subst hv
    have hp0 : p = 0 := by omega
    have hn0 : n = 0 := by omega
    subst hp0
    subst hn0
    go_wp2_with fail
    go_quiet (fail)
    go_wp2
    go_ret2
    have he := take_end 0 H1.out HB.out hn nq
    exact ⟨⟨_, rfl, none_bytes _ _ _ _⟩, he⟩
  · subst hv
    go_wp2_with fail
    go_quiet (fail)
    go_wp2
    · go_ret2
      have hcp : cap = p := by omega
      rw [← hcp] at hn
      subst hcp
      have he := take_end n H1.out HB.out hn nq
      have hn0 : n = 0 := by omega
      subst hn0
      exact ⟨⟨_, rfl, none_bytes _ _ _ _⟩, he⟩
    · go_ret2
      have he := take_end n H1.out HB.out hn nq
      exact ⟨⟨_, rfl, cut_bytes he.1.own p n _ hn⟩, he⟩
end Go.Proofs.YtpocjmlkhophoaaGreatDoor
