/- The document's own Wheel (yardref2.Wheel) in memory; its At, Next and later; yardref.At. -/
import Derived.Test.YtfefkkojdcipcaaDoorAny
import Derived.Test.YtfefkkojdcipcaaDoorSame
namespace Go.Proofs.YtfefkkojdcipcaaDoor
open Go.RowKit Go.Extern.Stop Go.Stop Go.Extern

/-- A row of the document's timers: it may begin anywhere in its block. -/
def RRow (w : World) (B : Nat) (v : Value) (ts : List (Int × Int)) : Prop :=
  (v = .slice none 0 0 ∧ ts = []) ∨ ∃ g off cap cur, v = .slice (some ⟨g, off, none⟩) ts.length cap ∧ B ≤ g ∧ w.heap[g]? = some (.cells cur 75 (0, 0)) ∧ ts.length ≤ cap ∧ cap ≤ 9223372036854775807 ∧ (0 < cap → off + cap * 2 ≤ cur.size) ∧ (cur.toList.drop off).take (ts.length * 2) = tcells ts
/-- The document's Wheel: its clock, and its timers. -/
structure RwAt (w : World) (B p : Nat) (now : Int) (v : Value) (ts : List (Int × Int)) : Prop where
  base : B ≤ p
  obj : w.heap[p]? = some (.cells #[.int .i64 now, v] 29 (0, 0))
  own : RRow w B v ts
section
variable {w w' : World} {B p : Nat} {now : Int} {v : Value} {ts : List (Int × Int)}
theorem RRow.block (h : RRow w B v ts) : ∀ k, v.ownBlock = some k → B ≤ k ∧ ∃ cur, w.heap[k]? = some (.cells cur 75 (0, 0)) := fun k e => by
  rcases h with ⟨hv, _⟩ | ⟨g, off, cap, cur, hv, hB, hh, _⟩
  · rw [hv] at e; cases e
  · rw [hv] at e
    have : g = k := by simpa [Value.ownBlock] using e
    subst this
    exact ⟨hB, cur, hh⟩
theorem RRow.off {S : Nat → Prop} (h : RRow w B v ts) (hb : Off S w w') (hs : ∀ k, v.ownBlock = some k → ¬ S k) : RRow w' B v ts := by
  rcases h with h | ⟨g, off, cap, cur, hv, hB, hh, h⟩
  · exact .inl h
  · exact .inr ⟨g, off, cap, cur, hv, hB, by rw [hb.block g (lt_heap hh) (hs g (by rw [hv]; rfl))]; exact hh, h⟩
theorem RwAt.c0 (h : RwAt w B p now v ts) : w.cell? ⟨p, 0, none⟩ = some (.int .i64 now) := by rw [cell_of_row _ _ _ _ _ _ h.obj]; rfl
theorem RwAt.c1 (h : RwAt w B p now v ts) : w.cell? ⟨p, 1, none⟩ = some v := by rw [cell_of_row _ _ _ _ _ _ h.obj]; rfl
theorem RwAt.fr (h : RwAt w B p now v ts) (j : Nat) : w.frozen? ⟨p, j, none⟩ = false := frozen_of_row _ _ _ _ _ h.obj
theorem RwAt.lt (h : RwAt w B p now v ts) : p < w.heap.size := lt_heap h.obj
theorem RwAt.rlt (h : RwAt w B p now v ts) : ∀ k, v.ownBlock = some k → B ≤ k ∧ k < w.heap.size := fun k e => by
  obtain ⟨hB, cur, hh⟩ := h.own.block k e
  exact ⟨hB, lt_heap hh⟩
theorem RwAt.ne (h : RwAt w B p now v ts) : v.ownBlock ≠ some p := fun e => by
  obtain ⟨_, cur, hh⟩ := h.own.block p e
  rw [h.obj] at hh
  simp only [Option.some.injEq, Obj.cells.injEq] at hh
  exact absurd hh.2.1 (by decide)
theorem RwAt.off {S : Nat → Prop} (h : RwAt w B p now v ts) (hk : Off S w w') (hs : ∀ k, Wrote p v k → ¬ S k) : RwAt w' B p now v ts :=
  ⟨h.base, (hk.block p h.lt (hs p (.inl rfl))).trans h.obj, h.own.off hk (fun k e => hs k (.inr e))⟩
theorem RwAt.on (h : RwAt w B p now v ts) (hk : Below w.heap.size w w') : RwAt w' B p now v ts := h.off (Off.of_below (fun _ => False) hk) (fun _ _ f => f)
theorem RRow.form (h : RRow w B v ts) : ∃ ao cap, v = .slice ao ts.length cap ∧ ts.length ≤ cap ∧ cap ≤ 9223372036854775807 ∧ ∀ i (hi : i < ts.length), ∃ g off, ao = some ⟨g, off, none⟩ ∧ w.cell? ⟨g, off + i * 2, none⟩ = some (.int .i64 ts[i].1) ∧ w.cell? ⟨g, off + i * 2 + 1, none⟩ = some (.int .i64 ts[i].2) := by
  rcases h with ⟨hv, h0⟩ | ⟨g, off, cap, cur, hv, _, hh, hc, hm, hz, hx⟩
  · subst h0
    exact ⟨none, 0, hv, by simp, by omega, fun i hi => by simp at hi⟩
  · refine ⟨some ⟨g, off, none⟩, cap, hv, hc, hm, fun i hi => ?_⟩
    have hgt := tcells_get ts i hi
    have hcell : ∀ j u, (tcells ts)[j]? = some u → w.cell? ⟨g, off + j, none⟩ = some u := fun j u hj => by
      rw [cell_of_row _ _ _ _ _ _ hh, ← Array.getElem?_toList]
      rw [← hx, List.getElem?_take] at hj
      split at hj
      · rwa [List.getElem?_drop] at hj
      · cases hj
    exact ⟨g, off, rfl, hcell _ _ hgt.1, by rw [Nat.add_assoc]; exact hcell _ _ hgt.2⟩
theorem RwAt.form (h : RwAt w B p now v ts) : ∃ ao cap, v = .slice ao ts.length cap ∧ ts.length ≤ cap ∧ cap ≤ 9223372036854775807 ∧ ∀ i (hi : i < ts.length), ∃ g off, ao = some ⟨g, off, none⟩ ∧ w.cell? ⟨g, off + i * 2, none⟩ = some (.int .i64 ts[i].1) ∧ w.cell? ⟨g, off + i * 2 + 1, none⟩ = some (.int .i64 ts[i].2) := h.own.form
end
/-- A Wheel of the document's has been turned: it and its row alone (or a new row). -/
def RTurned (w : World) (B p : Nat) (v : Value) (now' : Int) (ts' : List (Int × Int)) (w' : World) : Prop :=
  ∃ v', RwAt w' B p now' v' ts' ∧ Off (Wrote p v) w w' ∧ ∀ k, v'.ownBlock = some k → v.ownBlock = some k ∨ w.heap.size ≤ k

theorem rlater_any (t n : Int) (h0 : 0 ≤ t) (h1 : t ≤ 1099511627776) (h2 : 0 ≤ n) (h3 : n ≤ 1099511627776) (w : World) : Calls Tryd.prog 34 #[.int .i64 t, .int .i64 n] w fun e w' => e = .returned (.int .i64 (laterT t n)) ∧ w = w' := by
  have hw : IntKind.i64.wrap (t + n) = t + n := by rw [IntKind.wrap_i64]; omega
  go_enter Tryd.func34, Tryd.ntmps34
  go_wp2
  go_ret
  exact ⟨rfl, rfl⟩

set_option maxRecDepth 100000 in
set_option maxHeartbeats 4000000 in
theorem rat_any (B p : Nat) (now : Int) (v : Value) (ts : List (Int × Int)) (id : Int) (w : World) (h : RwAt w B p now v ts) (hl : ts.length ≤ 100000) :
    Calls Tryd.prog 40 #[.pointer (some ⟨p, 0, none⟩), .int .i64 id] w fun e w' => e = .returned (.tuple #[.int .i64 ((atT ts id).getD 0), .bool (atT ts id).isSome]) ∧ w = w' := by
  have c1 := h.c1
  have H := Lib.hid h
  obtain ⟨ao, cap, rfl, hc, hm, hcs⟩ := h.form
  have HL := Lib.hid hl
  have HC := Lib.hid hcs
  clear h hc hm hl hcs
  go_enter Tryd.func40, Tryd.ntmps40
  go_wp2
  go_loopg [6] ts.length (fun k s6 wr => ∃ i : Nat, i ≤ ts.length ∧ k = ts.length - i ∧ s6 = .int .i64 i ∧ Hid (w = wr ∧ atT (ts.drop i) id = atT ts id))
  case atStart => exact ⟨0, Nat.zero_le _, rfl, rfl, Lib.hid ⟨rfl, rfl⟩⟩
  case round =>
    obtain ⟨i, hi, rfl, rfl, hbr⟩ := hrel
    obtain ⟨hwe, hat⟩ := hbr.out
    subst hwe
    have HAT := Lib.hid hat
    clear hat hbr
    by_cases hlt : i < ts.length
    · obtain ⟨g, off, hg, p0, p1⟩ := HC.out i hlt
      subst hg
      have hi0 : (0 : Int) ≤ (i : Int) := by omega
      have hil : (i : Int) < (ts.length : Int) := by omega
      have hd : ts.drop i = ts[i] :: ts.drop (i + 1) := List.drop_eq_getElem_cons hlt
      have HD := Lib.hid hd
      clear hd
      generalize ts[i] = t at *
      obtain ⟨t1, t2⟩ := t
      by_cases hq : t1 = id
      · have hq' : (t1 == id) = true := by simpa using hq
        have HQ := Lib.hid hq
        clear hq
        go_wp2
        go_ret2
        refine ⟨?_, rfl⟩
        have := HAT.out
        rw [HD.out, atT, if_pos HQ.out] at this
        rw [← this]; rfl
      · have hq' : (t1 == id) = false := by simpa using hq
        have HQ := Lib.hid hq
        clear hq
        go_wp2
        go_roundg (ts.length - (i + 1))
        case measure => omega
        case rel =>
          have := HAT.out
          rw [HD.out, atT, if_neg HQ.out] at this
          exact ⟨i + 1, by omega, rfl, (by first | exact next_int i (by have := HL.out; omega) | exact congrArg _ (by omega)), Lib.hid ⟨rfl, this⟩⟩
    · have hil : (ts.length : Int) ≤ (i : Int) := by omega
      go_wp2
      go_ret2
      refine ⟨?_, rfl⟩
      have := HAT.out
      rw [List.drop_eq_nil_of_le (by omega), atT] at this
      rw [← this]; rfl
theorem rnext_any (B p : Nat) (now : Int) (v : Value) (ts : List (Int × Int)) (w : World) (h : RwAt w B p now v ts) :
    Calls Tryd.prog 41 #[.pointer (some ⟨p, 0, none⟩)] w fun e w' => e = .returned (.tuple #[.int .i64 ((ts.head?.map (·.2)).getD 0), .bool ts.head?.isSome]) ∧ w = w' := by
  have c1 := h.c1
  obtain ⟨ao, cap, rfl, _, _, hcell⟩ := h.form
  cases ts with
  | nil =>
    clear hcell h
    go_enter Tryd.func41, Tryd.ntmps41
    go_wp2
    go_ret2
    exact ⟨rfl, rfl⟩
  | cons t l =>
    obtain ⟨g, off, hg, p0, p1⟩ := hcell 0 (by simp)
    subst hg
    have hn : (((t :: l).length : Int) == 0) = false := by simp; omega
    have hn2 : (0 : Int) < ((t :: l).length : Int) := by simp
    clear hcell h
    generalize (t :: l).length = n at *
    simp only [List.getElem_cons_zero, Nat.zero_mul, Nat.add_zero] at p0 p1
    simp only [List.head?_cons]
    go_enter Tryd.func41, Tryd.ntmps41
    go_wp2
    go_ret2
    exact ⟨rfl, rfl⟩

theorem yat_any (s : ByteArray) (p c : Int) (w : World) : Calls Tryd.prog 33 #[.string s, .int .i64 p, .int .i64 c] w fun e w' => (∃ g : Nat, e = .returned (.agg #[.int .i64 c, .slice (some ⟨g, 0, none⟩) 1 1]) ∧ StepsOwn w' (.slice (some ⟨g, 0, none⟩) 1 1) [(s, p)]) ∧ Below w.heap.size w w' := by
  go_enter Tryd.func33, Tryd.ntmps33
  go_wp2
  refine bodyPost_ret (v := .agg #[.int .i64 c, .slice (some ⟨w.heap.size + 1, 0, none⟩) 1 1]) ?_ rfl ⟨⟨w.heap.size + 1, rfl, ?_⟩, ?_⟩
  · simp [results, Tryd.results33, go_sem]
  · refine ⟨some ⟨w.heap.size + 1, 0, none⟩, 1, rfl, fun i hi => ?_⟩
    have hi0 : i = 0 := by simpa using hi
    subst hi0
    exact ⟨w.heap.size + 1, rfl, by simp, by simp, by simp⟩
  · exact two_belowW _ _ _
end Go.Proofs.YtfefkkojdcipcaaDoor
