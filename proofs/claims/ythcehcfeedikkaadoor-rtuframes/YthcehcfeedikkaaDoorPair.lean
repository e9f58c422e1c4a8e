/- Two Framers, the program's and the document's, side by side; a third one that was copied from. -/
import Derived.Test.YthcehcfeedikkaaDoorFrm3
namespace Go.Proofs.YthcehcfeedikkaaDoor
open Go.RowKit Go.Extern.Stop Go.Stop Go.Extern

def Disj (u v : Value) : Prop := ∀ k, u.ownBlock = some k → v.ownBlock ≠ some k
theorem Disj.symm {u v : Value} (h : Disj u v) : Disj v u := fun k h1 h2 => h k h2 h1
theorem disj_nil (v : Value) : Disj v (.slice none 0 0) := fun k _ h => by simp [Value.ownBlock] at h
theorem disj_nil' (v : Value) : Disj (.slice none 0 0) v := fun k h => by simp [Value.ownBlock] at h
/-- A row that grew or moved is still apart from an older one. -/
theorem Disj.grow {w : World} {B n : Nat} {u v v' : Value} {xs : List Value} (h : Disj v u) (hu : w.ownsRow B 5 1 u n xs) (hv : ∀ k, v'.ownBlock = some k → v.ownBlock = some k ∨ w.heap.size ≤ k) : Disj v' u := fun k h1 h2 => by
  rcases hv k h1 with h3 | h3
  · exact h k h3 h2
  · have := (hu.lt k h2).2; omega
structure Pair (W1 : World) (s : Int) (b1 b2 : Nat) (q1 q2 : Int) (v1 v2 : Value) (l1 l2 : List UInt8) (w : World) : Prop where
  f : FmAt w W1.heap.size b1 s q1 v1 l1
  x : XmAt w W1.heap.size b2 s q2 v2 l2
  below : Below W1.heap.size W1 w
  hb1 : W1.heap.size ≤ b1
  hb2 : W1.heap.size ≤ b2
  d : Disj v1 v2
theorem two_no {w : World} {b1 b2 : Nat} {cs cs' : Array Value} {t t' : TypeId} (h1 : w.heap[b1]? = some (.cells cs t (0, 0))) (h2 : w.heap[b2]? = some (.cells cs' t' (0, 0))) (h : t ≠ t') : b1 ≠ b2 := fun e => by
  subst e
  rw [h1] at h2
  simp at h2
  exact h h2.2
theorem Pair.on {W1 : World} {s : Int} {b1 b2 : Nat} {q1 q2 : Int} {v1 v2 : Value} {l1 l2 : List UInt8} {w w' : World} (h : Pair W1 s b1 b2 q1 q2 v1 v2 l1 l2 w) (hb : Below w.heap.size w w') : Pair W1 s b1 b2 q1 q2 v1 v2 l1 l2 w' :=
  ⟨h.f.off (Off.of_below (fun _ => False) hb) (fun f => f) (fun _ _ f => f), h.x.off (Off.of_below (fun _ => False) hb) (fun f => f) (fun _ _ f => f), h.below.trans (hb.mono h.below.size), h.hb1, h.hb2, h.d⟩
/-- What turns the first alone leaves the second. -/
theorem Pair.keep2 {W1 : World} {s : Int} {b1 b2 : Nat} {q1 q2 : Int} {v1 v2 : Value} {l1 l2 : List UInt8} {w w' : World} (h : Pair W1 s b1 b2 q1 q2 v1 v2 l1 l2 w) (ho : Off (fun k => k = b1 ∨ v1.ownBlock = some k) w w') : XmAt w' W1.heap.size b2 s q2 v2 l2 ∧ Below W1.heap.size W1 w' :=
  ⟨h.x.off ho (fun e => by
    rcases e with e | e
    · exact two_no h.f.obj h.x.obj (by decide) e.symm
    · exact row_no h.f.own h.x.obj (by decide) e) (fun k hk e => by
    rcases e with e | e
    · subst e; exact row_no h.x.own h.f.obj (by decide) hk
    · exact h.d k e hk), h.below.trans (ho.below h.below.size (fun k e => by
    rcases e with e | e
    · rw [e]; exact h.hb1
    · exact (h.f.own.lt k e).1))⟩
theorem Pair.keep1 {W1 : World} {s : Int} {b1 b2 : Nat} {q1 q2 : Int} {v1 v2 : Value} {l1 l2 : List UInt8} {w w' : World} (h : Pair W1 s b1 b2 q1 q2 v1 v2 l1 l2 w) (ho : Off (fun k => k = b2 ∨ v2.ownBlock = some k) w w') : FmAt w' W1.heap.size b1 s q1 v1 l1 ∧ Below W1.heap.size W1 w' :=
  ⟨h.f.off ho (fun e => by
    rcases e with e | e
    · exact two_no h.f.obj h.x.obj (by decide) e
    · exact row_no h.x.own h.f.obj (by decide) e) (fun k hk e => by
    rcases e with e | e
    · subst e; exact row_no h.f.own h.x.obj (by decide) hk
    · exact h.d k hk e), h.below.trans (ho.below h.below.size (fun k e => by
    rcases e with e | e
    · rw [e]; exact h.hb2
    · exact (h.x.own.lt k e).1))⟩

theorem pr_byte1 {W1 : World} {s : Int} {b1 b2 : Nat} {q1 q2 : Int} {v1 v2 : Value} {l1 l2 : List UInt8} {w : World} (h : Pair W1 s b1 b2 q1 q2 v1 v2 l1 l2 w) (x : UInt8) (hl : l1.length ≤ 257) : Calls Tryd.prog 16 #[.pointer (some ⟨b1, 0, none⟩), .int .u8 (x.toNat : Int)] w fun e w' => e = .returned (.tuple #[]) ∧ ∃ v1', Pair W1 s b1 b2 0 q2 v1' v2 (pushB l1 x) l2 w' := by
  refine (pbyte w _ b1 s q1 v1 l1 x h.f h.below.size hl).mono ?_
  rintro e w' ⟨rfl, v', hf, ho, hn⟩
  obtain ⟨k1, k2⟩ := h.keep2 ho
  exact ⟨rfl, v', hf, k1, k2, h.hb1, h.hb2, h.d.grow h.x.own hn⟩
theorem pr_byte2 {W1 : World} {s : Int} {b1 b2 : Nat} {q1 q2 : Int} {v1 v2 : Value} {l1 l2 : List UInt8} {w : World} (h : Pair W1 s b1 b2 q1 q2 v1 v2 l1 l2 w) (x : UInt8) (hl : l2.length ≤ 257) : Calls Tryd.prog 17 #[.pointer (some ⟨b2, 0, none⟩), .int .u8 (x.toNat : Int)] w fun e w' => e = .returned (.tuple #[]) ∧ ∃ v2', Pair W1 s b1 b2 q1 0 v1 v2' l1 (pushB l2 x) w' := by
  refine (xbyte w _ b2 s q2 v2 l2 x h.x h.below.size hl).mono ?_
  rintro e w' ⟨rfl, v', hf, ho, hn⟩
  obtain ⟨k1, k2⟩ := h.keep1 ho
  exact ⟨rfl, v', k1, hf, k2, h.hb1, h.hb2, (h.d.symm.grow h.f.own hn).symm⟩
theorem off1 {w w' : World} {b : Nat} {v : Value} (h : Off (fun k => k = b) w w') : Off (fun k => k = b ∨ v.ownBlock = some k) w w' := h.mono fun _ _ e => .inl e
theorem pr_more1 {W1 : World} {s : Int} {b1 b2 : Nat} {q : Nat} {q2 : Int} {v1 v2 : Value} {l1 l2 : List UInt8} {w : World} (h : Pair W1 s b1 b2 q q2 v1 v2 l1 l2 w) (hl : 0 < l1.length) (hq : q ≤ 1000) (hs : (q : Int) + 1 < s) : Calls Tryd.prog 18 #[.pointer (some ⟨b1, 0, none⟩)] w fun e w' => e = .returned (.tuple #[.slice none 0 0, .bool false]) ∧ Pair W1 s b1 b2 ((q + 1 : Nat) : Int) q2 v1 v2 l1 l2 w' := by
  refine (ptick_more w _ b1 q s v1 l1 h.f hl hq hs).mono ?_
  rintro e w' ⟨rfl, hf, ho⟩
  obtain ⟨k1, k2⟩ := h.keep2 (off1 ho)
  exact ⟨rfl, hf, k1, k2, h.hb1, h.hb2, h.d⟩
theorem pr_more2 {W1 : World} {s : Int} {b1 b2 : Nat} {q : Nat} {q1 : Int} {v1 v2 : Value} {l1 l2 : List UInt8} {w : World} (h : Pair W1 s b1 b2 q1 q v1 v2 l1 l2 w) (hl : 0 < l2.length) (hq : q ≤ 1000) (hs : (q : Int) + 1 < s) : Calls Tryd.prog 19 #[.pointer (some ⟨b2, 0, none⟩)] w fun e w' => e = .returned (.tuple #[.slice none 0 0, .bool false]) ∧ Pair W1 s b1 b2 q1 ((q + 1 : Nat) : Int) v1 v2 l1 l2 w' := by
  refine (xtick_more w _ b2 q s v2 l2 h.x hl hq hs).mono ?_
  rintro e w' ⟨rfl, hf, ho⟩
  obtain ⟨k1, k2⟩ := h.keep1 (off1 ho)
  exact ⟨rfl, k1, hf, k2, h.hb1, h.hb2, h.d⟩
theorem pr_end1 {W1 : World} {s : Int} {b1 b2 : Nat} {q : Nat} {q2 : Int} {v1 v2 : Value} {l1 l2 : List UInt8} {w : World} (h : Pair W1 s b1 b2 q q2 v1 v2 l1 l2 w) (hl : 0 < l1.length) (hq : q ≤ 1000) (hs : s ≤ (q : Int) + 1) : Calls Tryd.prog 18 #[.pointer (some ⟨b1, 0, none⟩)] w fun e w' => e = .returned (.tuple #[v1, .bool true]) ∧ (∃ q', Pair W1 s b1 b2 q' q2 (.slice none 0 0) v2 [] l2 w') ∧ w'.ownsRow W1.heap.size 5 1 v1 l1.length (bcells l1) := by
  refine (ptick_end w _ b1 q s v1 l1 h.f hl hq hs).mono ?_
  rintro e w' ⟨rfl, ⟨q', hf⟩, ho⟩
  obtain ⟨k1, k2⟩ := h.keep2 (off1 ho)
  exact ⟨rfl, ⟨q', hf, k1, k2, h.hb1, h.hb2, disj_nil' _⟩, ownsRow_off h.f.own ho (fun k hk e => by subst e; exact row_no h.f.own h.f.obj (by decide) hk)⟩
theorem pr_end2 {W1 : World} {s : Int} {b1 b2 : Nat} {q : Nat} {q1 : Int} {v1 v2 u : Value} {l1 l2 m : List UInt8} {w : World} (h : Pair W1 s b1 b2 q1 q v1 v2 l1 l2 w) (hu : w.ownsRow W1.heap.size 5 1 u m.length (bcells m)) (hl : 0 < l2.length) (hq : q ≤ 1000) (hs : s ≤ (q : Int) + 1) : Calls Tryd.prog 19 #[.pointer (some ⟨b2, 0, none⟩)] w fun e w' => e = .returned (.tuple #[v2, .bool true]) ∧ (∃ q', Pair W1 s b1 b2 q1 q' v1 (.slice none 0 0) l1 [] w') ∧ w'.ownsRow W1.heap.size 5 1 v2 l2.length (bcells l2) ∧ w'.ownsRow W1.heap.size 5 1 u m.length (bcells m) := by
  refine (xtick_end w _ b2 q s v2 l2 h.x hl hq hs).mono ?_
  rintro e w' ⟨rfl, ⟨q', hf⟩, ho⟩
  obtain ⟨k1, k2⟩ := h.keep1 (off1 ho)
  exact ⟨rfl, ⟨q', k1, hf, k2, h.hb1, h.hb2, disj_nil _⟩, ownsRow_off h.x.own ho (fun k hk e => by subst e; exact row_no h.x.own h.x.obj (by decide) hk), ownsRow_off hu ho (fun k hk e => by subst e; exact row_no hu h.x.obj (by decide) hk)⟩
theorem pr_drop1 {W1 : World} {s : Int} {b1 b2 : Nat} {q1 q2 : Int} {v1 v2 : Value} {l1 l2 : List UInt8} {w : World} (h : Pair W1 s b1 b2 q1 q2 v1 v2 l1 l2 w) : Calls Tryd.prog 20 #[.pointer (some ⟨b1, 0, none⟩)] w fun e w' => e = .returned (.tuple #[]) ∧ ∃ q', Pair W1 s b1 b2 q' q2 (.slice none 0 0) v2 [] l2 w' := by
  refine (pdrop w _ b1 s q1 v1 l1 h.f).mono ?_
  rintro e w' ⟨rfl, ⟨q', hf⟩, ho⟩
  obtain ⟨k1, k2⟩ := h.keep2 (off1 ho)
  exact ⟨rfl, q', hf, k1, k2, h.hb1, h.hb2, disj_nil' _⟩
theorem pr_drop2 {W1 : World} {s : Int} {b1 b2 : Nat} {q1 q2 : Int} {v1 v2 : Value} {l1 l2 : List UInt8} {w : World} (h : Pair W1 s b1 b2 q1 q2 v1 v2 l1 l2 w) : Calls Tryd.prog 21 #[.pointer (some ⟨b2, 0, none⟩)] w fun e w' => e = .returned (.tuple #[]) ∧ ∃ q', Pair W1 s b1 b2 q1 q' v1 (.slice none 0 0) l1 [] w' := by
  refine (xdrop w _ b2 s q2 v2 l2 h.x).mono ?_
  rintro e w' ⟨rfl, ⟨q', hf⟩, ho⟩
  obtain ⟨k1, k2⟩ := h.keep1 (off1 ho)
  exact ⟨rfl, q', k1, hf, k2, h.hb1, h.hb2, disj_nil _⟩
/-- Three of them: what was copied from, the copy, the document's. -/
structure Trio (W1 : World) (s : Int) (b0 b1 b2 : Nat) (q0 q1 q2 : Int) (v0 v1 v2 : Value) (l0 l1 l2 : List UInt8) (w : World) : Prop where
  p : Pair W1 s b1 b2 q1 q2 v1 v2 l1 l2 w
  o : FmAt w W1.heap.size b0 s q0 v0 l0
  hb0 : W1.heap.size ≤ b0
  ne : b0 ≠ b1
  d1 : Disj v0 v1
  d2 : Disj v0 v2
theorem pr_copy {W1 : World} {s : Int} {b1 b2 : Nat} {q1 q2 : Int} {v1 v2 : Value} {l1 l2 : List UInt8} {w : World} (h : Pair W1 s b1 b2 q1 q2 v1 v2 l1 l2 w) (hl : l1.length ≤ 257) : Calls Tryd.prog 22 #[.pointer (some ⟨b1, 0, none⟩)] w fun e w' => ∃ (b' : Nat) (v' : Value), e = .returned (.pointer (some ⟨b', 0, none⟩)) ∧ Trio W1 s b1 b' b2 q1 q1 q2 v1 v' v2 l1 l1 l2 w' := by
  refine (pcopy w _ b1 s q1 v1 l1 h.f h.below.size hl).mono ?_
  rintro e w' ⟨b', v', rfl, hf, hb, hb', hn⟩
  have h' := h.on hb
  have k : ∀ (u : Value) (m : List UInt8), w.ownsRow W1.heap.size 5 1 u m.length (bcells m) → Disj u v' := fun u m hu k h1 h2 => by have := (hu.lt k h1).2; have := hn k h2; omega
  exact ⟨b', v', rfl, ⟨hf, h'.x, h'.below, Nat.le_trans h.below.size hb', h.hb2, (k v2 l2 h.x.own).symm⟩, h'.f, h.hb1, fun e => by have := lt_heap h.f.obj; omega, k v1 l1 h.f.own, h.d⟩
/-- What turns the first of three alone leaves the others. -/
theorem Trio.keep {W1 : World} {s : Int} {b0 b1 b2 : Nat} {q0 q1 q2 : Int} {v0 v1 v2 : Value} {l0 l1 l2 : List UInt8} {w w' : World} (h : Trio W1 s b0 b1 b2 q0 q1 q2 v0 v1 v2 l0 l1 l2 w) (ho : Off (fun k => k = b0 ∨ v0.ownBlock = some k) w w') : Pair W1 s b1 b2 q1 q2 v1 v2 l1 l2 w' :=
  ⟨h.p.f.off ho (fun e => by
    rcases e with e | e
    · exact h.ne e.symm
    · exact row_no h.o.own h.p.f.obj (by decide) e) (fun k hk e => by
    rcases e with e | e
    · subst e; exact row_no h.p.f.own h.o.obj (by decide) hk
    · exact h.d1 k e hk), h.p.x.off ho (fun e => by
    rcases e with e | e
    · exact two_no h.o.obj h.p.x.obj (by decide) e.symm
    · exact row_no h.o.own h.p.x.obj (by decide) e) (fun k hk e => by
    rcases e with e | e
    · subst e; exact row_no h.p.x.own h.o.obj (by decide) hk
    · exact h.d2 k e hk), h.p.below.trans (ho.below h.p.below.size (fun k e => by
    rcases e with e | e
    · rw [e]; exact h.hb0
    · exact (h.o.own.lt k e).1)), h.p.hb1, h.p.hb2, h.p.d⟩
theorem tr_byte {W1 : World} {s : Int} {b0 b1 b2 : Nat} {q0 q1 q2 : Int} {v0 v1 v2 : Value} {l0 l1 l2 : List UInt8} {w : World} (h : Trio W1 s b0 b1 b2 q0 q1 q2 v0 v1 v2 l0 l1 l2 w) (x : UInt8) (hl : l0.length ≤ 257) : Calls Tryd.prog 16 #[.pointer (some ⟨b0, 0, none⟩), .int .u8 (x.toNat : Int)] w fun e w' => e = .returned (.tuple #[]) ∧ ∃ v0', Trio W1 s b0 b1 b2 0 q1 q2 v0' v1 v2 (pushB l0 x) l1 l2 w' := by
  refine (pbyte w _ b0 s q0 v0 l0 x h.o h.p.below.size hl).mono ?_
  rintro e w' ⟨rfl, v', hf, ho, hn⟩
  exact ⟨rfl, v', h.keep ho, hf, h.hb0, h.ne, h.d1.grow h.p.f.own hn, h.d2.grow h.p.x.own hn⟩
/-- A tick of the first of three, behind a byte. -/
theorem tr_tick {W1 : World} {s : Int} {b0 b1 b2 : Nat} {q1 q2 : Int} {v0 v1 v2 : Value} {l0 l1 l2 : List UInt8} {w : World} (h : Trio W1 s b0 b1 b2 ((0 : Nat) : Int) q1 q2 v0 v1 v2 l0 l1 l2 w) (hl : 0 < l0.length) : Calls Tryd.prog 18 #[.pointer (some ⟨b0, 0, none⟩)] w fun e w' => ∃ a n c t, e = .returned (.tuple #[.slice a n c, .bool t]) ∧ Pair W1 s b1 b2 q1 q2 v1 v2 l1 l2 w' := by
  by_cases hs : ((0 : Nat) : Int) + 1 < s
  · refine (ptick_more w _ b0 0 s v0 l0 h.o hl (by omega) hs).mono ?_
    rintro e w' ⟨rfl, _, ho⟩
    exact ⟨_, _, _, _, rfl, h.keep (off1 ho)⟩
  · refine (ptick_end w _ b0 0 s v0 l0 h.o hl (by omega) (by omega)).mono ?_
    rintro e w' ⟨rfl, _, ho⟩
    obtain ⟨a, c, rfl⟩ := row_form h.o.own
    exact ⟨_, _, _, _, rfl, h.keep (off1 ho)⟩
theorem push_pos (l : List UInt8) (x : UInt8) : 0 < (pushB l x).length := by
  unfold pushB
  split
  · simp
  · omega
theorem push_le (l : List UInt8) (x : UInt8) (h : l.length ≤ 257) : (pushB l x).length ≤ 257 := by
  unfold pushB
  split
  · simp; omega
  · exact h
end Go.Proofs.YthcehcfeedikkaaDoor
