/- yardref2.Writer's U, I and B1: what they answer, what they turn, for every row that was written and every number. -/
import Derived.Test.YtpdngcjgfngnjaaDoorRef
import Derived.Deep.RegionLaw
namespace Go.Proofs.YtpdngcjgfngnjaaDoor
open Go.RowKit Go.Extern.Stop Go.Stop Go.Extern

/-- The document's Writer: its own row of bytes. -/
structure RfAt (w : World) (B b : Nat) (v : Value) (l : List UInt8) : Prop where
  base : B ≤ b
  obj : w.heap[b]? = some (.cells #[v] 58 (0, 0))
  own : w.ownsRow B 5 1 v l.length (bcells l)
theorem RfAt.c0 {w : World} {B b : Nat} {v : Value} {l : List UInt8} (h : RfAt w B b v l) : w.cell? ⟨b, 0, none⟩ = some v := by rw [cell_of_row _ _ _ _ _ _ h.obj]; rfl
theorem RfAt.f0 {w : World} {B b : Nat} {v : Value} {l : List UInt8} (h : RfAt w B b v l) : w.frozen? ⟨b, 0, none⟩ = false := frozen_of_row _ _ _ _ _ h.obj
theorem RfAt.lt {w : World} {B b : Nat} {v : Value} {l : List UInt8} (h : RfAt w B b v l) : b < w.heap.size := lt_heap h.obj
theorem RfAt.off {w w' : World} {S : Nat → Prop} {B b : Nat} {v : Value} {l : List UInt8} (h : RfAt w B b v l) (hk : Off S w w') (hr : ¬ S b) (hv : ∀ k, v.ownBlock = some k → ¬ S k) : RfAt w' B b v l :=
  ⟨h.base, (hk.block b h.lt hr).trans h.obj, ownsRow_off h.own hk hv⟩
theorem RfAt.on {w w' : World} {B b : Nat} {v : Value} {l : List UInt8} (h : RfAt w B b v l) (hk : Below w.heap.size w w') : RfAt w' B b v l := h.off (Off.of_below (fun _ => False) hk) (fun f => f) (fun _ _ f => f)
theorem RfAt.bytes {w : World} {B b : Nat} {v : Value} {l : List UInt8} (h : RfAt w B b v l) : ∃ ao cap, v = .slice ao l.length cap := by
  obtain ⟨ao, cap, hv, _⟩ := bytesAt_own h.own
  exact ⟨ao, cap, hv⟩

/-- What writing the bytes m leaves. -/
def RfPut (w : World) (B b : Nat) (v : Value) (l m : List UInt8) (w' : World) : Prop :=
  ∃ v', RfAt w' B b v' (l ++ m) ∧ Off (Wrote b v) w w' ∧ ∀ k, v'.ownBlock = some k → v.ownBlock = some k ∨ w.heap.size ≤ k

theorem RfAt.put {w w1 : World} {B b : Nat} {v v' : Value} {l m : List UInt8} (h : RfAt w B b v l) (ha : AppIs w B v l m (.returned v') w1) : RfPut w B b v l m (w1.setCell ⟨b, 0, none⟩ v') := by
  obtain ⟨v1, e, ho, hk, hb⟩ := ha
  simp only [Ending.returned.injEq] at e
  subst e
  have hbw : w1.heap[b]? = some (.cells #[v] 58 (0, 0)) := (hk.block b h.lt (fun e => row_no h.own h.obj (by decide) e)).trans h.obj
  refine ⟨v', ⟨h.base, by rw [heap_set _ _ _ _ _ _ _ hbw]; rfl, ?_⟩, ?_, hb⟩
  · exact ownsRow_off ho (Off.set (fun k => k = b) w1 ⟨b, 0, none⟩ _ rfl) (fun k e s => row_no ho hbw (by decide) (by rw [e, s]))
  · exact (hk.mono (fun k _ s => .inr s)).trans (Off.set _ _ ⟨b, 0, none⟩ _ (.inl rfl))


theorem RfPut.after {w w1 w2 : World} {B b : Nat} {v : Value} {l m : List UInt8} (hb : Below w.heap.size w w1) (h : RfPut w1 B b v l m w2) : RfPut w B b v l m w2 := by
  obtain ⟨v', h1, h2, h3⟩ := h
  refine ⟨v', h1, (Off.of_below _ hb).trans h2, fun k hk => ?_⟩
  rcases h3 k hk with h | h
  · exact .inl h
  · exact .inr (Nat.le_trans hb.size h)
/-- A store into a block of another kind, made behind w. -/
theorem RfPut.seal {w w3 : World} {B b : Nat} {v : Value} {l m : List UInt8} (h : RfPut w B b v l m w3) {rb : Nat} {cs : Array Value} {fr : Nat × Nat} (hr : w3.heap[rb]? = some (.cells cs 37 fr)) (hw : w.heap.size ≤ rb) (j : Nat) (u : Value) : RfPut w B b v l m (w3.setCell ⟨rb, j, none⟩ u) := by
  obtain ⟨v', h1, h2, h3⟩ := h
  have hk : Off (fun k => k = rb) w3 (w3.setCell ⟨rb, j, none⟩ u) := Off.set (fun k => k = rb) w3 ⟨rb, j, none⟩ u rfl
  have hbr : b ≠ rb := fun e => by
    have ho := h1.obj
    rw [e, hr] at ho
    simp only [Option.some.injEq, Obj.cells.injEq] at ho
    exact absurd ho.2.1 (by decide)
  refine ⟨v', h1.off hk hbr (fun k hk' e => by subst e; exact row_no h1.own hr (by decide) hk'), ⟨hk.os.trans h2.os, hk.tape.trans h2.tape, hk.output.trans h2.output, Nat.le_trans h2.size hk.size, fun k hk' hn => (hk.block k (Nat.lt_of_lt_of_le hk' h2.size) (fun e => by omega)).trans (h2.block k hk' hn)⟩, h3⟩

theorem pow_span (m : Nat) (h : m ≤ 6) : (2 : Int) ^ (8 * m) = ((256 ^ m : Nat) : Int) := by
  match m, h with
  | 0, _ => rfl
  | 1, _ => rfl
  | 2, _ => rfl
  | 3, _ => rfl
  | 4, _ => rfl
  | 5, _ => rfl
  | 6, _ => rfl
  | m + 7, h => omega
theorem keep_far {w1 w2 : World} {v : Value} {B n : Nat} {xs : List Value} (hr : w1.ownsRow B 5 1 v n xs) (hg : w1.grownBy w2 v.ownBlock) {k : Nat} {cs : Array Value} {t : TypeId} (hk : w1.heap[k]? = some (.cells cs t (0, 0))) (ht : t ≠ 5) : w2.heap[k]? = some (.cells cs t (0, 0)) :=
  (hg.block k (lt_heap hk) (fun e => row_no hr hk ht e.symm)).trans hk
theorem keep_on {w1 w2 : World} (hb : Below w1.heap.size w1 w2) {k : Nat} {o : Obj} (hk : w1.heap[k]? = some o) : w2.heap[k]? = some o := (hb.block k (lt_heap hk)).trans hk
theorem cell2 {w : World} {k : Nat} {a b : Value} {t : TypeId} (h : w.heap[k]? = some (.cells #[a, b] t (0, 0))) : w.cell? ⟨k, 0, none⟩ = some a ∧ w.cell? ⟨k, 1, none⟩ = some b ∧ w.frozen? ⟨k, 0, none⟩ = false ∧ w.frozen? ⟨k, 1, none⟩ = false :=
  ⟨by rw [cell_of_row _ _ _ _ _ _ h]; rfl, by rw [cell_of_row _ _ _ _ _ _ h]; rfl, frozen_of_row _ _ _ _ _ h, frozen_of_row _ _ _ _ _ h⟩
theorem cell1 {w : World} {k : Nat} {a : Value} {t : TypeId} (h : w.heap[k]? = some (.cells #[a] t (0, 0))) : w.cell? ⟨k, 0, none⟩ = some a ∧ w.frozen? ⟨k, 0, none⟩ = false := ⟨by rw [cell_of_row _ _ _ _ _ _ h]; rfl, frozen_of_row _ _ _ _ _ h⟩
/-- What is known behind the call that makes the new bytes. -/
structure Made (w0 w1 : World) (B b rb : Nat) (v : Value) (l : List UInt8) (gl cl : Nat) (n : Nat) (m : List UInt8) : Prop where
  below : Below w0.heap.size w0 w1
  len : (bcells m).length = n * 1
  news : ∀ j u, (bcells m)[j]? = some u → w1.cell? ((⟨gl, 0, none⟩ : Addr).add j) = some u
  own : w1.ownsRow B 5 1 v l.length (bcells l)
  obj : w1.heap[b]? = some (.cells #[v] 58 (0, 0))
  res : w1.heap[rb]? = some (.cells #[.int .i64 0, .slice none 0 0] 37 (0, 0))
  base : B ≤ w1.heap.size
theorem Made.mk' {w0 w1 : World} {B b rb : Nat} {v : Value} {l : List UInt8} {gl cl n W : Nat} {m : List UInt8} (h0 : RfAt w0 B b v l) (hr : w0.heap[rb]? = some (.cells #[.int .i64 0, .slice none 0 0] 37 (0, 0))) (hb : Below w0.heap.size w0 w1) (hn : m.length = n) (hl : w1.ownsRow W 5 1 (.slice (some ⟨gl, 0, none⟩) n cl) n (bcells m)) : Made w0 w1 B b rb v l gl cl n m := by
  subst hn
  exact ⟨hb, by rw [bcells_length]; omega, bytesAt_news (bytesAt_own hl), ownsRow_off h0.own (Off.of_below (fun _ => False) hb) (fun _ _ f => f), keep_on hb h0.obj, keep_on hb hr, Nat.le_trans h0.base (Nat.le_trans (Nat.le_of_lt h0.lt) hb.size)⟩
theorem lies_at {v : Value} {g n c H : Nat} (h : v.ownBlock = some g ∨ g = H) : ∀ k, (Value.slice (some ⟨g, 0, none⟩) n c).ownBlock = some k → v.ownBlock = some k ∨ H ≤ k := fun k hk => by
  have : g = k := by simpa [Value.ownBlock] using hk
  subst this
  rcases h with h | h
  · exact .inl h
  · exact .inr (Nat.le_of_eq h.symm)
theorem Made.app {w0 w1 w2 : World} {B b rb : Nat} {v v' : Value} {l : List UInt8} {gl cl n : Nat} {m : List UInt8} (h : Made w0 w1 B b rb v l gl cl n m) (hn : m.length = n) (hown : w2.ownsRow B 5 1 v' (l.length + n) (bcells l ++ bcells m)) (hg : w1.grownBy w2 v.ownBlock) (hat : ∀ k, v'.ownBlock = some k → v.ownBlock = some k ∨ w1.heap.size ≤ k) : AppIs w0 B v l m (.returned v') w2 := by
  refine ⟨v', rfl, by subst hn; rw [List.length_append, bcells_append]; exact hown, (Off.of_below _ h.below).trans (Off.of_grown hg), fun k hk => ?_⟩
  rcases hat k hk with h' | h'
  · exact .inl h'
  · exact .inr (Nat.le_trans h.below.size h')

set_option maxRecDepth 100000 in
set_option maxHeartbeats 4000000 in
theorem rfu_ok (B b : Nat) (v : Value) (l : List UInt8) (m : Nat) (x : Int) (w : World) (h : RfAt w B b v l) (hl : l.length ≤ 140737488355000) (hx : UFits m x) :
    Calls Tryd.prog 30 #[.pointer (some ⟨b, 0, none⟩), .int .i64 (m : Int), .int .i64 x] w fun e w' => e = .returned (.agg #[.int .i64 0, .slice none 0 0]) ∧ RfPut w B b v l (leBytes m x) w' := by
  obtain ⟨i0, hi0, hz0, hz1, hz2⟩ := info_parts info5
  have hb0 : Below w.heap.size w (w.alloc (.cells #[.int .i64 0, .slice none 0 0] 37)) := below_new _ _
  have HB0 := Lib.hid hb0
  have H0 := Lib.hid (h.on hb0)
  have hrb : (w.alloc (.cells #[.int .i64 0, .slice none 0 0] 37)).heap[w.heap.size]? = some (.cells #[.int .i64 0, .slice none 0 0] 37 (0, 0)) := heap_alloc_new w _
  have HRB := Lib.hid hrb
  obtain ⟨ao, cap, rfl⟩ := h.bytes
  obtain ⟨⟨hn1, hn2⟩, hx0, hx1⟩ := hx
  have hm1 : 1 ≤ m := by omega
  have hm2 : m ≤ 6 := by omega
  obtain ⟨s, hs, hs1, hs2⟩ := span_facts m hm1 hm2
  have hP := pow_span m hm2
  rw [Int.toNat_natCast, hs] at hx1
  rw [hs] at hP
  have HM := Lib.hid (And.intro hm1 hm2)
  have hbl : b < w.heap.size := h.lt
  clear hs hrb hb0 h
  have hSb : ((2 * s : Nat) : Int) ≤ 281474976710656 := by omega
  generalize ((2 * s : Nat) : Int) = S at *
  have h63 : l.length + m ≤ maxLen := by unfold maxLen; omega
  have hby : (l.length + m) * 1 ≤ 140737488355328 := by omega
  have HSZ : Hid (w.heap.size < (w.alloc (.cells #[.int .i64 0, .slice none 0 0] 37)).heap.size) := Lib.hid (by simp)
  have hbne : b ≠ w.heap.size := by omega
  go_enter Tryd.func30, Tryd.ntmps30
  go_wp2
  generalize w.alloc (.cells #[.int .i64 0, .slice none 0 0] 37) = w0 at *
  obtain ⟨c0, f0⟩ := cell1 H0.out.obj
  go_region_law (first
    | (go_simp
       go_at_call 55
       refine (le_any m HM.out.1 HM.out.2 x _).mono ?_
       rintro e w1 ⟨vl, rfl, hl1, hb1⟩
       rw [leBytes_length] at hl1
       obtain ⟨gl, cl, rfl, _, _⟩ := row_lit hl1 HM.out.1
       have HMD := Lib.hid (Made.mk' H0.out HRB.out ((Below.refl w0.heap.size w0).drew.trans hb1) (leBytes_length m x) hl1)
       obtain ⟨q0, q1⟩ := cell1 HMD.out.obj
       clear hl1 hb1
       simp only [])
    | (refine step_append_lies _ (by rfl) _ _ _ (by rfl) B 5 i0 _ 1 1 Tryd.underlying22 hi0 hz0 hz1 hz2 rfl (by omega) (.slice ao l.length cap) l.length (bcells l) (by rfl) HMD.out.own ⟨gl, 0, none⟩ m cl (bcells (leBytes m x)) (by rfl) HMD.out.len HMD.out.news (bcells_one _) HM.out.1 h63 hby HMD.out.base w1.heap.size rfl ?_
       intro g cp w2 hown hgrow hat hlt
       obtain ⟨t0, t1⟩ := cell1 (keep_far HMD.out.own hgrow HMD.out.obj (by decide))))
  all_goals
    have HPUT := Lib.hid (H0.out.put (HMD.out.app (leBytes_length m x) hown hgrow (lies_at hat)))
    have hres := keep_far HMD.out.own hgrow HMD.out.res (by decide)
    rw [← Below.heap_setCell w2 ⟨b, 0, none⟩ (.slice (some ⟨g, 0, none⟩) (l.length + m) cp) w.heap.size (Ne.symm hbne)] at hres
    clear hown hgrow hat hlt t0 t1 q0 q1
    generalize w2.setCell ⟨b, 0, none⟩ (.slice (some ⟨g, 0, none⟩) (l.length + m) cp) = w3 at *
    obtain ⟨r0, r1, g0, g1⟩ := cell2 hres
    have HRES := Lib.hid hres
    have e0 : ((w3.setCell ⟨w.heap.size, 0, none⟩ (.int .i64 0)).setCell ⟨w.heap.size, 1, none⟩ (.slice none 0 0)).cell? ⟨w.heap.size, 0, none⟩ = some (.int .i64 0) := by
      rw [World.cell?_setCell_other _ _ _ _ (by simp)]
      exact World.cell?_setCell_same _ _ _ r0
    have e1 : ((w3.setCell ⟨w.heap.size, 0, none⟩ (.int .i64 0)).setCell ⟨w.heap.size, 1, none⟩ (.slice none 0 0)).cell? ⟨w.heap.size, 1, none⟩ = some (.slice none 0 0) :=
      World.cell?_setCell_same (u := .slice none 0 0) _ _ _ (by rw [World.cell?_setCell_other _ _ _ _ (by simp)]; exact r1)
    clear hres c0 f0
    go_wp2
    refine bodyPost_ret (v := .agg #[.int .i64 0, .slice none 0 0]) ?_ rfl ⟨rfl, ?_⟩
    · simp [results, Tryd.results30, go_sem, e0, e1]
    · exact ((HPUT.out.after HB0.out).seal HRES.out (Nat.le_refl _) 0 _).seal (heap_set _ _ _ _ _ _ _ HRES.out) (Nat.le_refl _) 1 _
end Go.Proofs.YtpdngcjgfngnjaaDoor
