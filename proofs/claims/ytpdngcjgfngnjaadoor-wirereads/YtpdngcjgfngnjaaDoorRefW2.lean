/- yardref2.Writer's I and B1 where the number fits, and U, I and B1 where it does not. -/
import Derived.Test.YtpdngcjgfngnjaaDoorRefW
namespace Go.Proofs.YtpdngcjgfngnjaaDoor
open Go.RowKit Go.Extern.Stop Go.Stop Go.Extern

theorem pow_half (m s : Nat) (h1 : 1 ≤ m) (h2 : m ≤ 6) (hs : 256 ^ m = 2 * s) : (2 : Int) ^ (8 * m - 1) = (s : Int) := by
  match m, h1, h2 with
  | 1, _, _ => have : s = 128 := by omega
               subst this; rfl
  | 2, _, _ => have : s = 32768 := by omega
               subst this; rfl
  | 3, _, _ => have : s = 8388608 := by omega
               subst this; rfl
  | 4, _, _ => have : s = 2147483648 := by omega
               subst this; rfl
  | 5, _, _ => have : s = 549755813888 := by omega
               subst this; rfl
  | 6, _, _ => have : s = 140737488355328 := by omega
               subst this; rfl
  | m + 7, _, h => omega
theorem rev_length (m : Nat) (x : Int) : (leBytes m x).reverse.length = m := by rw [List.length_reverse, leBytes_length]

set_option maxRecDepth 100000 in
set_option maxHeartbeats 4000000 in
theorem rfi_ok (B b : Nat) (v : Value) (l : List UInt8) (m : Nat) (x : Int) (w : World) (h : RfAt w B b v l) (hl : l.length ≤ 140737488355000) (hx : SFits m x) :
    Calls Tryd.prog 31 #[.pointer (some ⟨b, 0, none⟩), .int .i64 (m : Int), .int .i64 x] w fun e w' => e = .returned (.agg #[.int .i64 0, .slice none 0 0]) ∧ RfPut w B b v l (leBytes m x) w' := by
  obtain ⟨i0, hi0, hz0, hz1, hz2⟩ := info_parts info5
  have hb0 : Below w.heap.size w (w.alloc (.cells #[.int .i64 0, .slice none 0 0] 37)) := below_new _ _
  have HB0 := Lib.hid hb0
  have H0 := Lib.hid (h.on hb0)
  have hrb : (w.alloc (.cells #[.int .i64 0, .slice none 0 0] 37)).heap[w.heap.size]? = some (.cells #[.int .i64 0, .slice none 0 0] 37 (0, 0)) := heap_alloc_new w _
  have HRB := Lib.hid hrb
  obtain ⟨ao, cap, rfl⟩ := h.bytes
  obtain ⟨⟨hn1, hn2⟩, hx0, hx1⟩ := hx
  have hm1 : 1 ≤ m := by omega
  have hm2 : m ≤ 6 := by omega
  obtain ⟨s, hs, hs1, hs2⟩ := span_facts m hm1 hm2
  have hP := pow_half m s hm1 hm2 hs
  rw [Int.toNat_natCast, hs] at hx0 hx1
  have hy0 : -(s : Int) ≤ x := by omega
  have hy1 : x < (s : Int) := by omega
  have HM := Lib.hid (And.intro hm1 hm2)
  have hbl : b < w.heap.size := h.lt
  clear hs hrb hb0 h
  have hSb : (s : Int) ≤ 281474976710656 := by omega
  have hS0 : 0 ≤ (s : Int) := by omega
  clear hx0 hx1 hs1 hs2
  generalize (s : Int) = S at *
  have h63 : l.length + m ≤ maxLen := by unfold maxLen; omega
  have hby : (l.length + m) * 1 ≤ 140737488355328 := by omega
  have HSZ : Hid (w.heap.size < (w.alloc (.cells #[.int .i64 0, .slice none 0 0] 37)).heap.size) := Lib.hid (by simp)
  have hbne : b ≠ w.heap.size := by omega
  go_enter Tryd.func31, Tryd.ntmps31
  go_wp2
  generalize w.alloc (.cells #[.int .i64 0, .slice none 0 0] 37) = w0 at *
  obtain ⟨c0, f0⟩ := cell1 H0.out.obj
  go_region_law (first
    | (go_simp
       go_at_call 55
       refine (le_any m HM.out.1 HM.out.2 x _).mono ?_
       rintro e w1 ⟨vl, rfl, hl1, hb1⟩
       rw [leBytes_length] at hl1
       obtain ⟨gl, cl, rfl, _, _⟩ := row_lit hl1 HM.out.1
       have HMD := Lib.hid (Made.mk' H0.out HRB.out ((Below.refl w0.heap.size w0).drew.trans hb1) (leBytes_length m x) hl1)
       obtain ⟨q0, q1⟩ := cell1 HMD.out.obj
       clear hl1 hb1
       simp only [])
    | (refine step_append_lies _ (by rfl) _ _ _ (by rfl) B 5 i0 _ 1 1 Tryd.underlying22 hi0 hz0 hz1 hz2 rfl (by omega) (.slice ao l.length cap) l.length (bcells l) (by rfl) HMD.out.own ⟨gl, 0, none⟩ m cl (bcells (leBytes m x)) (by rfl) HMD.out.len HMD.out.news (bcells_one _) HM.out.1 h63 hby HMD.out.base w1.heap.size rfl ?_
       intro g cp w2 hown hgrow hat hlt
       obtain ⟨t0, t1⟩ := cell1 (keep_far HMD.out.own hgrow HMD.out.obj (by decide))))
  all_goals
    have HPUT := Lib.hid (H0.out.put (HMD.out.app (leBytes_length m x) hown hgrow (lies_at hat)))
    have hres := keep_far HMD.out.own hgrow HMD.out.res (by decide)
    rw [← Below.heap_setCell w2 ⟨b, 0, none⟩ (.slice (some ⟨g, 0, none⟩) (l.length + m) cp) w.heap.size (Ne.symm hbne)] at hres
    clear hown hgrow hat hlt t0 t1 q0 q1
    generalize w2.setCell ⟨b, 0, none⟩ (.slice (some ⟨g, 0, none⟩) (l.length + m) cp) = w3 at *
    obtain ⟨r0, r1, g0, g1⟩ := cell2 hres
    have HRES := Lib.hid hres
    have e0 : ((w3.setCell ⟨w.heap.size, 0, none⟩ (.int .i64 0)).setCell ⟨w.heap.size, 1, none⟩ (.slice none 0 0)).cell? ⟨w.heap.size, 0, none⟩ = some (.int .i64 0) := by
      rw [World.cell?_setCell_other _ _ _ _ (by simp)]
      exact World.cell?_setCell_same _ _ _ r0
    have e1 : ((w3.setCell ⟨w.heap.size, 0, none⟩ (.int .i64 0)).setCell ⟨w.heap.size, 1, none⟩ (.slice none 0 0)).cell? ⟨w.heap.size, 1, none⟩ = some (.slice none 0 0) :=
      World.cell?_setCell_same (u := .slice none 0 0) _ _ _ (by rw [World.cell?_setCell_other _ _ _ _ (by simp)]; exact r1)
    clear hres c0 f0
    go_wp2
    refine bodyPost_ret (v := .agg #[.int .i64 0, .slice none 0 0]) ?_ rfl ⟨rfl, ?_⟩
    · simp [results, Tryd.results31, go_sem, e0, e1]
    · exact ((HPUT.out.after HB0.out).seal HRES.out (Nat.le_refl _) 0 _).seal (heap_set _ _ _ _ _ _ _ HRES.out) (Nat.le_refl _) 1 _

set_option maxRecDepth 100000 in
set_option maxHeartbeats 4000000 in
theorem rfb_ok (B b : Nat) (v : Value) (l : List UInt8) (m : Nat) (x : Int) (w : World) (h : RfAt w B b v l) (hl : l.length ≤ 140737488355000) (hx : UFits m x) :
    Calls Tryd.prog 32 #[.pointer (some ⟨b, 0, none⟩), .int .i64 (m : Int), .int .i64 x] w fun e w' => e = .returned (.agg #[.int .i64 0, .slice none 0 0]) ∧ RfPut w B b v l (leBytes m x).reverse w' := by
  obtain ⟨i0, hi0, hz0, hz1, hz2⟩ := info_parts info5
  have hb0 : Below w.heap.size w (w.alloc (.cells #[.int .i64 0, .slice none 0 0] 37)) := below_new _ _
  have HB0 := Lib.hid hb0
  have H0 := Lib.hid (h.on hb0)
  have hrb : (w.alloc (.cells #[.int .i64 0, .slice none 0 0] 37)).heap[w.heap.size]? = some (.cells #[.int .i64 0, .slice none 0 0] 37 (0, 0)) := heap_alloc_new w _
  have HRB := Lib.hid hrb
  obtain ⟨ao, cap, rfl⟩ := h.bytes
  obtain ⟨⟨hn1, hn2⟩, hx0, hx1⟩ := hx
  have hm1 : 1 ≤ m := by omega
  have hm2 : m ≤ 6 := by omega
  obtain ⟨s, hs, hs1, hs2⟩ := span_facts m hm1 hm2
  have hP := pow_span m hm2
  rw [Int.toNat_natCast, hs] at hx1
  rw [hs] at hP
  have HM := Lib.hid (And.intro hm1 hm2)
  have hbl : b < w.heap.size := h.lt
  clear hs hrb hb0 h
  have hSb : ((2 * s : Nat) : Int) ≤ 281474976710656 := by omega
  generalize ((2 * s : Nat) : Int) = S at *
  have h63 : l.length + m ≤ maxLen := by unfold maxLen; omega
  have hby : (l.length + m) * 1 ≤ 140737488355328 := by omega
  have HSZ : Hid (w.heap.size < (w.alloc (.cells #[.int .i64 0, .slice none 0 0] 37)).heap.size) := Lib.hid (by simp)
  have hbne : b ≠ w.heap.size := by omega
  go_enter Tryd.func32, Tryd.ntmps32
  go_wp2
  generalize w.alloc (.cells #[.int .i64 0, .slice none 0 0] 37) = w0 at *
  obtain ⟨c0, f0⟩ := cell1 H0.out.obj
  go_region_law (first
    | (go_simp
       go_at_call 55
       refine (le_any m HM.out.1 HM.out.2 x _).mono ?_
       rintro e w1 ⟨vl, rfl, hl1, hb1⟩
       have HL1 := Lib.hid (bytesAt_own hl1)
       rw [leBytes_length] at hl1
       obtain ⟨gl, cl, rfl, _, _⟩ := row_lit hl1 HM.out.1
       have HB1 : Hid (Below w0.heap.size w0 w1) := Lib.hid ((Below.refl w0.heap.size w0).drew.trans hb1)
       obtain ⟨q0, q1⟩ := cell1 (keep_on HB1.out H0.out.obj)
       clear hl1 hb1
       simp only [])
    | (go_simp
       go_at_call 51
       refine (turned_any _ _ _ HL1.out (by rw [leBytes_length]; exact HM.out.1) (by rw [leBytes_length]; exact HM.out.2)).mono ?_
       rintro e w5 ⟨vt, rfl, hl5, hb5⟩
       rw [List.length_reverse, leBytes_length] at hl5
       obtain ⟨gt, ct, rfl, _, _⟩ := row_lit hl5 HM.out.1
       have HMD := Lib.hid (Made.mk' H0.out HRB.out (HB1.out.trans (hb5.mono HB1.out.size)) (rev_length m x) hl5)
       obtain ⟨p0, p1⟩ := cell1 HMD.out.obj
       clear hl5 hb5
       simp only [])
    | (refine step_append_lies _ (by rfl) _ _ _ (by rfl) B 5 i0 _ 1 1 Tryd.underlying22 hi0 hz0 hz1 hz2 rfl (by omega) (.slice ao l.length cap) l.length (bcells l) (by rfl) HMD.out.own ⟨gt, 0, none⟩ m ct (bcells (leBytes m x).reverse) (by rfl) HMD.out.len HMD.out.news (bcells_one _) HM.out.1 h63 hby HMD.out.base w5.heap.size rfl ?_
       intro g cp w2 hown hgrow hat hlt
       obtain ⟨t0, t1⟩ := cell1 (keep_far HMD.out.own hgrow HMD.out.obj (by decide))))
  all_goals
    have HPUT := Lib.hid (H0.out.put (HMD.out.app (rev_length m x) hown hgrow (lies_at hat)))
    have hres := keep_far HMD.out.own hgrow HMD.out.res (by decide)
    rw [← Below.heap_setCell w2 ⟨b, 0, none⟩ (.slice (some ⟨g, 0, none⟩) (l.length + m) cp) w.heap.size (Ne.symm hbne)] at hres
    clear hown hgrow hat hlt t0 t1 q0 q1 p0 p1
    generalize w2.setCell ⟨b, 0, none⟩ (.slice (some ⟨g, 0, none⟩) (l.length + m) cp) = w3 at *
    obtain ⟨r0, r1, g0, g1⟩ := cell2 hres
    have HRES := Lib.hid hres
    have e0 : ((w3.setCell ⟨w.heap.size, 0, none⟩ (.int .i64 0)).setCell ⟨w.heap.size, 1, none⟩ (.slice none 0 0)).cell? ⟨w.heap.size, 0, none⟩ = some (.int .i64 0) := by
      rw [World.cell?_setCell_other _ _ _ _ (by simp)]
      exact World.cell?_setCell_same _ _ _ r0
    have e1 : ((w3.setCell ⟨w.heap.size, 0, none⟩ (.int .i64 0)).setCell ⟨w.heap.size, 1, none⟩ (.slice none 0 0)).cell? ⟨w.heap.size, 1, none⟩ = some (.slice none 0 0) :=
      World.cell?_setCell_same (u := .slice none 0 0) _ _ _ (by rw [World.cell?_setCell_other _ _ _ _ (by simp)]; exact r1)
    clear hres c0 f0
    go_wp2
    refine bodyPost_ret (v := .agg #[.int .i64 0, .slice none 0 0]) ?_ rfl ⟨rfl, ?_⟩
    · simp [results, Tryd.results32, go_sem, e0, e1]
    · exact ((HPUT.out.after HB0.out).seal HRES.out (Nat.le_refl _) 0 _).seal (heap_set _ _ _ _ _ _ _ HRES.out) (Nat.le_refl _) 1 _

theorem stepsOwn_set {w : World} {v : Value} {s : ByteArray} {p : Int} (h : StepsOwn w v [(s, p)]) {rb j : Nat} {u : Value} {n : Int} (hr : w.cell? ⟨rb, 0, none⟩ = some (.int .i64 n)) : StepsOwn (w.setCell ⟨rb, j, none⟩ u) v [(s, p)] := by
  obtain ⟨ao, cap, hv, hc⟩ := h
  refine ⟨ao, cap, hv, fun i hi => ?_⟩
  have hi0 : i = 0 := by simpa using hi
  subst hi0
  obtain ⟨g, ha, hlt, h0, h1⟩ := hc 0 (by simp)
  have hne : g ≠ rb := fun e => by
    subst e
    simp only [Nat.zero_mul] at h0
    rw [hr] at h0
    simp at h0
  refine ⟨g, ha, by simpa [World.setCell] using hlt, ?_, ?_⟩
  · rw [World.cell?_setCell_other _ _ _ _ (by intro e; cases e; exact hne rfl)]; exact h0
  · rw [World.cell?_setCell_other _ _ _ _ (by intro e; cases e; exact hne rfl)]; exact h1

/-- The document's error: a code and one step. -/
def DocErr (w : World) (p : Nat) (c : Int) (e : Ending) (w' : World) : Prop := ∃ g : Nat, e = .returned (.agg #[.int .i64 c, .slice (some ⟨g, 0, none⟩) 1 1]) ∧ StepsOwn w' (.slice (some ⟨g, 0, none⟩) 1 1) [(sWire, (p : Int))] ∧ Below w.heap.size w w'

set_option maxRecDepth 100000 in
set_option maxHeartbeats 2000000 in
theorem rfu_bad (B b : Nat) (v : Value) (l : List UInt8) (n x : Int) (w : World) (h : RfAt w B b v l) (hx : ¬ UFits n x) :
    Calls Tryd.prog 30 #[.pointer (some ⟨b, 0, none⟩), .int .i64 n, .int .i64 x] w (DocErr w l.length 1) := by
  have hb0 : Below w.heap.size w (w.alloc (.cells #[.int .i64 0, .slice none 0 0] 37)) := below_new _ _
  have HB0 := Lib.hid hb0
  have H0 := Lib.hid (h.on hb0)
  have HRB : Hid ((w.alloc (.cells #[.int .i64 0, .slice none 0 0] 37)).heap[w.heap.size]? = some (.cells #[.int .i64 0, .slice none 0 0] 37 (0, 0))) := Lib.hid (heap_alloc_new w _)
  obtain ⟨ao, cap, rfl⟩ := h.bytes
  obtain ⟨c0, _⟩ := cell1 H0.out.obj
  clear hb0 h
  by_cases hn : 1 ≤ n ∧ n ≤ 6
  · obtain ⟨m, rfl⟩ : ∃ m : Nat, n = (m : Int) := ⟨n.toNat, by omega⟩
    obtain ⟨s, hs, hs1, hs2⟩ := span_facts m (by omega) (by omega)
    have hP := pow_span m (by omega)
    have hx2 : x < 0 ∨ ((2 * s : Nat) : Int) ≤ x := by
      unfold UFits at hx
      rw [Int.toNat_natCast, hs] at hx
      omega
    rw [hs] at hP
    have hSb : ((2 * s : Nat) : Int) ≤ 281474976710656 := by omega
    have hS0 : 0 ≤ ((2 * s : Nat) : Int) := by omega
    clear hx hs hs1 hs2
    generalize ((2 * s : Nat) : Int) = S at *
    by_cases hx0 : x < 0
    · go_enter Tryd.func30, Tryd.ntmps30
      go_wp2_with fail
      generalize w.alloc (.cells #[.int .i64 0, .slice none 0 0] 37) = w0 at *
      refine (at_any sWire l.length 1 w0).mono ?_
      rintro e w1 ⟨⟨g, rfl, hst⟩, hb⟩
      have HST := Lib.hid hst
      have HB1 := Lib.hid hb
      have hres := keep_on hb HRB.out
      obtain ⟨r0, r1, g0, g1⟩ := cell2 hres
      have e0 : ((w1.setCell ⟨w.heap.size, 0, none⟩ (.int .i64 1)).setCell ⟨w.heap.size, 1, none⟩ (.slice (some ⟨g, 0, none⟩) 1 1)).cell? ⟨w.heap.size, 0, none⟩ = some (.int .i64 1) := by
        rw [World.cell?_setCell_other _ _ _ _ (by simp)]
        exact World.cell?_setCell_same _ _ _ r0
      have e1 : ((w1.setCell ⟨w.heap.size, 0, none⟩ (.int .i64 1)).setCell ⟨w.heap.size, 1, none⟩ (.slice (some ⟨g, 0, none⟩) 1 1)).cell? ⟨w.heap.size, 1, none⟩ = some (.slice (some ⟨g, 0, none⟩) 1 1) :=
        World.cell?_setCell_same (u := .slice none 0 0) _ _ _ (by rw [World.cell?_setCell_other _ _ _ _ (by simp)]; exact r1)
      have HS2 := Lib.hid (stepsOwn_set (j := 1) (u := .slice (some ⟨g, 0, none⟩) 1 1) (n := 1) (stepsOwn_set (j := 0) (u := .int .i64 1) hst r0) (World.cell?_setCell_same _ _ _ r0))
      clear hst hb hres c0
      go_wp2
      refine bodyPost_ret (v := .agg #[.int .i64 1, .slice (some ⟨g, 0, none⟩) 1 1]) ?_ rfl ⟨g, rfl, HS2.out, ((HB0.out.trans (HB1.out.mono HB0.out.size)).setCell (Nat.le_refl _) _).setCell (Nat.le_refl _) _⟩
      simp [results, Tryd.results30, go_sem, e0, e1]
    · have hx3 : S ≤ x := by omega
      go_enter Tryd.func30, Tryd.ntmps30
      go_wp2_with fail
      generalize w.alloc (.cells #[.int .i64 0, .slice none 0 0] 37) = w0 at *
      refine (at_any sWire l.length 1 w0).mono ?_
      rintro e w1 ⟨⟨g, rfl, hst⟩, hb⟩
      have HST := Lib.hid hst
      have HB1 := Lib.hid hb
      have hres := keep_on hb HRB.out
      obtain ⟨r0, r1, g0, g1⟩ := cell2 hres
      have e0 : ((w1.setCell ⟨w.heap.size, 0, none⟩ (.int .i64 1)).setCell ⟨w.heap.size, 1, none⟩ (.slice (some ⟨g, 0, none⟩) 1 1)).cell? ⟨w.heap.size, 0, none⟩ = some (.int .i64 1) := by
        rw [World.cell?_setCell_other _ _ _ _ (by simp)]
        exact World.cell?_setCell_same _ _ _ r0
      have e1 : ((w1.setCell ⟨w.heap.size, 0, none⟩ (.int .i64 1)).setCell ⟨w.heap.size, 1, none⟩ (.slice (some ⟨g, 0, none⟩) 1 1)).cell? ⟨w.heap.size, 1, none⟩ = some (.slice (some ⟨g, 0, none⟩) 1 1) :=
        World.cell?_setCell_same (u := .slice none 0 0) _ _ _ (by rw [World.cell?_setCell_other _ _ _ _ (by simp)]; exact r1)
      have HS2 := Lib.hid (stepsOwn_set (j := 1) (u := .slice (some ⟨g, 0, none⟩) 1 1) (n := 1) (stepsOwn_set (j := 0) (u := .int .i64 1) hst r0) (World.cell?_setCell_same _ _ _ r0))
      clear hst hb hres c0
      go_wp2
      refine bodyPost_ret (v := .agg #[.int .i64 1, .slice (some ⟨g, 0, none⟩) 1 1]) ?_ rfl ⟨g, rfl, HS2.out, ((HB0.out.trans (HB1.out.mono HB0.out.size)).setCell (Nat.le_refl _) _).setCell (Nat.le_refl _) _⟩
      simp [results, Tryd.results30, go_sem, e0, e1]
  · by_cases hn1 : n < 1
    · clear hn hx
      go_enter Tryd.func30, Tryd.ntmps30
      go_wp2_with fail
      generalize w.alloc (.cells #[.int .i64 0, .slice none 0 0] 37) = w0 at *
      refine (at_any sWire l.length 1 w0).mono ?_
      rintro e w1 ⟨⟨g, rfl, hst⟩, hb⟩
      have HST := Lib.hid hst
      have HB1 := Lib.hid hb
      have hres := keep_on hb HRB.out
      obtain ⟨r0, r1, g0, g1⟩ := cell2 hres
      have e0 : ((w1.setCell ⟨w.heap.size, 0, none⟩ (.int .i64 1)).setCell ⟨w.heap.size, 1, none⟩ (.slice (some ⟨g, 0, none⟩) 1 1)).cell? ⟨w.heap.size, 0, none⟩ = some (.int .i64 1) := by
        rw [World.cell?_setCell_other _ _ _ _ (by simp)]
        exact World.cell?_setCell_same _ _ _ r0
      have e1 : ((w1.setCell ⟨w.heap.size, 0, none⟩ (.int .i64 1)).setCell ⟨w.heap.size, 1, none⟩ (.slice (some ⟨g, 0, none⟩) 1 1)).cell? ⟨w.heap.size, 1, none⟩ = some (.slice (some ⟨g, 0, none⟩) 1 1) :=
        World.cell?_setCell_same (u := .slice none 0 0) _ _ _ (by rw [World.cell?_setCell_other _ _ _ _ (by simp)]; exact r1)
      have HS2 := Lib.hid (stepsOwn_set (j := 1) (u := .slice (some ⟨g, 0, none⟩) 1 1) (n := 1) (stepsOwn_set (j := 0) (u := .int .i64 1) hst r0) (World.cell?_setCell_same _ _ _ r0))
      clear hst hb hres c0
      go_wp2
      refine bodyPost_ret (v := .agg #[.int .i64 1, .slice (some ⟨g, 0, none⟩) 1 1]) ?_ rfl ⟨g, rfl, HS2.out, ((HB0.out.trans (HB1.out.mono HB0.out.size)).setCell (Nat.le_refl _) _).setCell (Nat.le_refl _) _⟩
      simp [results, Tryd.results30, go_sem, e0, e1]
    · have hn2 : 6 < n := by omega
      clear hn hx
      go_enter Tryd.func30, Tryd.ntmps30
      go_wp2_with fail
      generalize w.alloc (.cells #[.int .i64 0, .slice none 0 0] 37) = w0 at *
      refine (at_any sWire l.length 1 w0).mono ?_
      rintro e w1 ⟨⟨g, rfl, hst⟩, hb⟩
      have HST := Lib.hid hst
      have HB1 := Lib.hid hb
      have hres := keep_on hb HRB.out
      obtain ⟨r0, r1, g0, g1⟩ := cell2 hres
      have e0 : ((w1.setCell ⟨w.heap.size, 0, none⟩ (.int .i64 1)).setCell ⟨w.heap.size, 1, none⟩ (.slice (some ⟨g, 0, none⟩) 1 1)).cell? ⟨w.heap.size, 0, none⟩ = some (.int .i64 1) := by
        rw [World.cell?_setCell_other _ _ _ _ (by simp)]
        exact World.cell?_setCell_same _ _ _ r0
      have e1 : ((w1.setCell ⟨w.heap.size, 0, none⟩ (.int .i64 1)).setCell ⟨w.heap.size, 1, none⟩ (.slice (some ⟨g, 0, none⟩) 1 1)).cell? ⟨w.heap.size, 1, none⟩ = some (.slice (some ⟨g, 0, none⟩) 1 1) :=
        World.cell?_setCell_same (u := .slice none 0 0) _ _ _ (by rw [World.cell?_setCell_other _ _ _ _ (by simp)]; exact r1)
      have HS2 := Lib.hid (stepsOwn_set (j := 1) (u := .slice (some ⟨g, 0, none⟩) 1 1) (n := 1) (stepsOwn_set (j := 0) (u := .int .i64 1) hst r0) (World.cell?_setCell_same _ _ _ r0))
      clear hst hb hres c0
      go_wp2
      refine bodyPost_ret (v := .agg #[.int .i64 1, .slice (some ⟨g, 0, none⟩) 1 1]) ?_ rfl ⟨g, rfl, HS2.out, ((HB0.out.trans (HB1.out.mono HB0.out.size)).setCell (Nat.le_refl _) _).setCell (Nat.le_refl _) _⟩
      simp [results, Tryd.results30, go_sem, e0, e1]

set_option maxRecDepth 100000 in
set_option maxHeartbeats 2000000 in
theorem rfi_bad (B b : Nat) (v : Value) (l : List UInt8) (n x : Int) (w : World) (h : RfAt w B b v l) (hx : ¬ SFits n x) :
    Calls Tryd.prog 31 #[.pointer (some ⟨b, 0, none⟩), .int .i64 n, .int .i64 x] w (DocErr w l.length 1) := by
  have hb0 : Below w.heap.size w (w.alloc (.cells #[.int .i64 0, .slice none 0 0] 37)) := below_new _ _
  have HB0 := Lib.hid hb0
  have H0 := Lib.hid (h.on hb0)
  have HRB : Hid ((w.alloc (.cells #[.int .i64 0, .slice none 0 0] 37)).heap[w.heap.size]? = some (.cells #[.int .i64 0, .slice none 0 0] 37 (0, 0))) := Lib.hid (heap_alloc_new w _)
  obtain ⟨ao, cap, rfl⟩ := h.bytes
  obtain ⟨c0, _⟩ := cell1 H0.out.obj
  clear hb0 h
  by_cases hn : 1 ≤ n ∧ n ≤ 6
  · obtain ⟨m, rfl⟩ : ∃ m : Nat, n = (m : Int) := ⟨n.toNat, by omega⟩
    obtain ⟨s, hs, hs1, hs2⟩ := span_facts m (by omega) (by omega)
    have hP := pow_half m s (by omega) (by omega) hs
    have hx2 : x < -(s : Int) ∨ (s : Int) ≤ x := by
      unfold SFits at hx
      rw [Int.toNat_natCast, hs] at hx
      omega
    have hSb : (s : Int) ≤ 281474976710656 := by omega
    have hS0 : 0 ≤ (s : Int) := by omega
    clear hx hs hs1 hs2
    generalize (s : Int) = S at *
    by_cases hx0 : x < -S
    · go_enter Tryd.func31, Tryd.ntmps31
      go_wp2_with fail
      generalize w.alloc (.cells #[.int .i64 0, .slice none 0 0] 37) = w0 at *
      refine (at_any sWire l.length 1 w0).mono ?_
      rintro e w1 ⟨⟨g, rfl, hst⟩, hb⟩
      have HST := Lib.hid hst
      have HB1 := Lib.hid hb
      have hres := keep_on hb HRB.out
      obtain ⟨r0, r1, g0, g1⟩ := cell2 hres
      have e0 : ((w1.setCell ⟨w.heap.size, 0, none⟩ (.int .i64 1)).setCell ⟨w.heap.size, 1, none⟩ (.slice (some ⟨g, 0, none⟩) 1 1)).cell? ⟨w.heap.size, 0, none⟩ = some (.int .i64 1) := by
        rw [World.cell?_setCell_other _ _ _ _ (by simp)]
        exact World.cell?_setCell_same _ _ _ r0
      have e1 : ((w1.setCell ⟨w.heap.size, 0, none⟩ (.int .i64 1)).setCell ⟨w.heap.size, 1, none⟩ (.slice (some ⟨g, 0, none⟩) 1 1)).cell? ⟨w.heap.size, 1, none⟩ = some (.slice (some ⟨g, 0, none⟩) 1 1) :=
        World.cell?_setCell_same (u := .slice none 0 0) _ _ _ (by rw [World.cell?_setCell_other _ _ _ _ (by simp)]; exact r1)
      have HS2 := Lib.hid (stepsOwn_set (j := 1) (u := .slice (some ⟨g, 0, none⟩) 1 1) (n := 1) (stepsOwn_set (j := 0) (u := .int .i64 1) hst r0) (World.cell?_setCell_same _ _ _ r0))
      clear hst hb hres c0
      go_wp2
      refine bodyPost_ret (v := .agg #[.int .i64 1, .slice (some ⟨g, 0, none⟩) 1 1]) ?_ rfl ⟨g, rfl, HS2.out, ((HB0.out.trans (HB1.out.mono HB0.out.size)).setCell (Nat.le_refl _) _).setCell (Nat.le_refl _) _⟩
      simp [results, Tryd.results31, go_sem, e0, e1]
    · have hx3 : S ≤ x := by omega
      go_enter Tryd.func31, Tryd.ntmps31
      go_wp2_with fail
      generalize w.alloc (.cells #[.int .i64 0, .slice none 0 0] 37) = w0 at *
      refine (at_any sWire l.length 1 w0).mono ?_
      rintro e w1 ⟨⟨g, rfl, hst⟩, hb⟩
      have HST := Lib.hid hst
      have HB1 := Lib.hid hb
      have hres := keep_on hb HRB.out
      obtain ⟨r0, r1, g0, g1⟩ := cell2 hres
      have e0 : ((w1.setCell ⟨w.heap.size, 0, none⟩ (.int .i64 1)).setCell ⟨w.heap.size, 1, none⟩ (.slice (some ⟨g, 0, none⟩) 1 1)).cell? ⟨w.heap.size, 0, none⟩ = some (.int .i64 1) := by
        rw [World.cell?_setCell_other _ _ _ _ (by simp)]
        exact World.cell?_setCell_same _ _ _ r0
      have e1 : ((w1.setCell ⟨w.heap.size, 0, none⟩ (.int .i64 1)).setCell ⟨w.heap.size, 1, none⟩ (.slice (some ⟨g, 0, none⟩) 1 1)).cell? ⟨w.heap.size, 1, none⟩ = some (.slice (some ⟨g, 0, none⟩) 1 1) :=
        World.cell?_setCell_same (u := .slice none 0 0) _ _ _ (by rw [World.cell?_setCell_other _ _ _ _ (by simp)]; exact r1)
      have HS2 := Lib.hid (stepsOwn_set (j := 1) (u := .slice (some ⟨g, 0, none⟩) 1 1) (n := 1) (stepsOwn_set (j := 0) (u := .int .i64 1) hst r0) (World.cell?_setCell_same _ _ _ r0))
      clear hst hb hres c0
      go_wp2
      refine bodyPost_ret (v := .agg #[.int .i64 1, .slice (some ⟨g, 0, none⟩) 1 1]) ?_ rfl ⟨g, rfl, HS2.out, ((HB0.out.trans (HB1.out.mono HB0.out.size)).setCell (Nat.le_refl _) _).setCell (Nat.le_refl _) _⟩
      simp [results, Tryd.results31, go_sem, e0, e1]
  · by_cases hn1 : n < 1
    · clear hn hx
      go_enter Tryd.func31, Tryd.ntmps31
      go_wp2_with fail
      generalize w.alloc (.cells #[.int .i64 0, .slice none 0 0] 37) = w0 at *
      refine (at_any sWire l.length 1 w0).mono ?_
      rintro e w1 ⟨⟨g, rfl, hst⟩, hb⟩
      have HST := Lib.hid hst
      have HB1 := Lib.hid hb
      have hres := keep_on hb HRB.out
      obtain ⟨r0, r1, g0, g1⟩ := cell2 hres
      have e0 : ((w1.setCell ⟨w.heap.size, 0, none⟩ (.int .i64 1)).setCell ⟨w.heap.size, 1, none⟩ (.slice (some ⟨g, 0, none⟩) 1 1)).cell? ⟨w.heap.size, 0, none⟩ = some (.int .i64 1) := by
        rw [World.cell?_setCell_other _ _ _ _ (by simp)]
        exact World.cell?_setCell_same _ _ _ r0
      have e1 : ((w1.setCell ⟨w.heap.size, 0, none⟩ (.int .i64 1)).setCell ⟨w.heap.size, 1, none⟩ (.slice (some ⟨g, 0, none⟩) 1 1)).cell? ⟨w.heap.size, 1, none⟩ = some (.slice (some ⟨g, 0, none⟩) 1 1) :=
        World.cell?_setCell_same (u := .slice none 0 0) _ _ _ (by rw [World.cell?_setCell_other _ _ _ _ (by simp)]; exact r1)
      have HS2 := Lib.hid (stepsOwn_set (j := 1) (u := .slice (some ⟨g, 0, none⟩) 1 1) (n := 1) (stepsOwn_set (j := 0) (u := .int .i64 1) hst r0) (World.cell?_setCell_same _ _ _ r0))
      clear hst hb hres c0
      go_wp2
      refine bodyPost_ret (v := .agg #[.int .i64 1, .slice (some ⟨g, 0, none⟩) 1 1]) ?_ rfl ⟨g, rfl, HS2.out, ((HB0.out.trans (HB1.out.mono HB0.out.size)).setCell (Nat.le_refl _) _).setCell (Nat.le_refl _) _⟩
      simp [results, Tryd.results31, go_sem, e0, e1]
    · have hn2 : 6 < n := by omega
      clear hn hx
      go_enter Tryd.func31, Tryd.ntmps31
      go_wp2_with fail
      generalize w.alloc (.cells #[.int .i64 0, .slice none 0 0] 37) = w0 at *
      refine (at_any sWire l.length 1 w0).mono ?_
      rintro e w1 ⟨⟨g, rfl, hst⟩, hb⟩
      have HST := Lib.hid hst
      have HB1 := Lib.hid hb
      have hres := keep_on hb HRB.out
      obtain ⟨r0, r1, g0, g1⟩ := cell2 hres
      have e0 : ((w1.setCell ⟨w.heap.size, 0, none⟩ (.int .i64 1)).setCell ⟨w.heap.size, 1, none⟩ (.slice (some ⟨g, 0, none⟩) 1 1)).cell? ⟨w.heap.size, 0, none⟩ = some (.int .i64 1) := by
        rw [World.cell?_setCell_other _ _ _ _ (by simp)]
        exact World.cell?_setCell_same _ _ _ r0
      have e1 : ((w1.setCell ⟨w.heap.size, 0, none⟩ (.int .i64 1)).setCell ⟨w.heap.size, 1, none⟩ (.slice (some ⟨g, 0, none⟩) 1 1)).cell? ⟨w.heap.size, 1, none⟩ = some (.slice (some ⟨g, 0, none⟩) 1 1) :=
        World.cell?_setCell_same (u := .slice none 0 0) _ _ _ (by rw [World.cell?_setCell_other _ _ _ _ (by simp)]; exact r1)
      have HS2 := Lib.hid (stepsOwn_set (j := 1) (u := .slice (some ⟨g, 0, none⟩) 1 1) (n := 1) (stepsOwn_set (j := 0) (u := .int .i64 1) hst r0) (World.cell?_setCell_same _ _ _ r0))
      clear hst hb hres c0
      go_wp2
      refine bodyPost_ret (v := .agg #[.int .i64 1, .slice (some ⟨g, 0, none⟩) 1 1]) ?_ rfl ⟨g, rfl, HS2.out, ((HB0.out.trans (HB1.out.mono HB0.out.size)).setCell (Nat.le_refl _) _).setCell (Nat.le_refl _) _⟩
      simp [results, Tryd.results31, go_sem, e0, e1]

set_option maxRecDepth 100000 in
set_option maxHeartbeats 2000000 in
theorem rfb_bad (B b : Nat) (v : Value) (l : List UInt8) (n x : Int) (w : World) (h : RfAt w B b v l) (hx : ¬ UFits n x) :
    Calls Tryd.prog 32 #[.pointer (some ⟨b, 0, none⟩), .int .i64 n, .int .i64 x] w (DocErr w l.length 1) := by
  have hb0 : Below w.heap.size w (w.alloc (.cells #[.int .i64 0, .slice none 0 0] 37)) := below_new _ _
  have HB0 := Lib.hid hb0
  have H0 := Lib.hid (h.on hb0)
  have HRB : Hid ((w.alloc (.cells #[.int .i64 0, .slice none 0 0] 37)).heap[w.heap.size]? = some (.cells #[.int .i64 0, .slice none 0 0] 37 (0, 0))) := Lib.hid (heap_alloc_new w _)
  obtain ⟨ao, cap, rfl⟩ := h.bytes
  obtain ⟨c0, _⟩ := cell1 H0.out.obj
  clear hb0 h
  by_cases hn : 1 ≤ n ∧ n ≤ 6
  · obtain ⟨m, rfl⟩ : ∃ m : Nat, n = (m : Int) := ⟨n.toNat, by omega⟩
    obtain ⟨s, hs, hs1, hs2⟩ := span_facts m (by omega) (by omega)
    have hP := pow_span m (by omega)
    have hx2 : x < 0 ∨ ((2 * s : Nat) : Int) ≤ x := by
      unfold UFits at hx
      rw [Int.toNat_natCast, hs] at hx
      omega
    rw [hs] at hP
    have hSb : ((2 * s : Nat) : Int) ≤ 281474976710656 := by omega
    have hS0 : 0 ≤ ((2 * s : Nat) : Int) := by omega
    clear hx hs hs1 hs2
    generalize ((2 * s : Nat) : Int) = S at *
    by_cases hx0 : x < 0
    · go_enter Tryd.func32, Tryd.ntmps32
      go_wp2_with fail
      generalize w.alloc (.cells #[.int .i64 0, .slice none 0 0] 37) = w0 at *
      refine (at_any sWire l.length 1 w0).mono ?_
      rintro e w1 ⟨⟨g, rfl, hst⟩, hb⟩
      have HST := Lib.hid hst
      have HB1 := Lib.hid hb
      have hres := keep_on hb HRB.out
      obtain ⟨r0, r1, g0, g1⟩ := cell2 hres
      have e0 : ((w1.setCell ⟨w.heap.size, 0, none⟩ (.int .i64 1)).setCell ⟨w.heap.size, 1, none⟩ (.slice (some ⟨g, 0, none⟩) 1 1)).cell? ⟨w.heap.size, 0, none⟩ = some (.int .i64 1) := by
        rw [World.cell?_setCell_other _ _ _ _ (by simp)]
        exact World.cell?_setCell_same _ _ _ r0
      have e1 : ((w1.setCell ⟨w.heap.size, 0, none⟩ (.int .i64 1)).setCell ⟨w.heap.size, 1, none⟩ (.slice (some ⟨g, 0, none⟩) 1 1)).cell? ⟨w.heap.size, 1, none⟩ = some (.slice (some ⟨g, 0, none⟩) 1 1) :=
        World.cell?_setCell_same (u := .slice none 0 0) _ _ _ (by rw [World.cell?_setCell_other _ _ _ _ (by simp)]; exact r1)
      have HS2 := Lib.hid (stepsOwn_set (j := 1) (u := .slice (some ⟨g, 0, none⟩) 1 1) (n := 1) (stepsOwn_set (j := 0) (u := .int .i64 1) hst r0) (World.cell?_setCell_same _ _ _ r0))
      clear hst hb hres c0
      go_wp2
      refine bodyPost_ret (v := .agg #[.int .i64 1, .slice (some ⟨g, 0, none⟩) 1 1]) ?_ rfl ⟨g, rfl, HS2.out, ((HB0.out.trans (HB1.out.mono HB0.out.size)).setCell (Nat.le_refl _) _).setCell (Nat.le_refl _) _⟩
      simp [results, Tryd.results32, go_sem, e0, e1]
    · have hx3 : S ≤ x := by omega
      go_enter Tryd.func32, Tryd.ntmps32
      go_wp2_with fail
      generalize w.alloc (.cells #[.int .i64 0, .slice none 0 0] 37) = w0 at *
      refine (at_any sWire l.length 1 w0).mono ?_
      rintro e w1 ⟨⟨g, rfl, hst⟩, hb⟩
      have HST := Lib.hid hst
      have HB1 := Lib.hid hb
      have hres := keep_on hb HRB.out
      obtain ⟨r0, r1, g0, g1⟩ := cell2 hres
      have e0 : ((w1.setCell ⟨w.heap.size, 0, none⟩ (.int .i64 1)).setCell ⟨w.heap.size, 1, none⟩ (.slice (some ⟨g, 0, none⟩) 1 1)).cell? ⟨w.heap.size, 0, none⟩ = some (.int .i64 1) := by
        rw [World.cell?_setCell_other _ _ _ _ (by simp)]
        exact World.cell?_setCell_same _ _ _ r0
      have e1 : ((w1.setCell ⟨w.heap.size, 0, none⟩ (.int .i64 1)).setCell ⟨w.heap.size, 1, none⟩ (.slice (some ⟨g, 0, none⟩) 1 1)).cell? ⟨w.heap.size, 1, none⟩ = some (.slice (some ⟨g, 0, none⟩) 1 1) :=
        World.cell?_setCell_same (u := .slice none 0 0) _ _ _ (by rw [World.cell?_setCell_other _ _ _ _ (by simp)]; exact r1)
      have HS2 := Lib.hid (stepsOwn_set (j := 1) (u := .slice (some ⟨g, 0, none⟩) 1 1) (n := 1) (stepsOwn_set (j := 0) (u := .int .i64 1) hst r0) (World.cell?_setCell_same _ _ _ r0))
      clear hst hb hres c0
      go_wp2
      refine bodyPost_ret (v := .agg #[.int .i64 1, .slice (some ⟨g, 0, none⟩) 1 1]) ?_ rfl ⟨g, rfl, HS2.out, ((HB0.out.trans (HB1.out.mono HB0.out.size)).setCell (Nat.le_refl _) _).setCell (Nat.le_refl _) _⟩
      simp [results, Tryd.results32, go_sem, e0, e1]
  · by_cases hn1 : n < 1
    · clear hn hx
      go_enter Tryd.func32, Tryd.ntmps32
      go_wp2_with fail
      generalize w.alloc (.cells #[.int .i64 0, .slice none 0 0] 37) = w0 at *
      refine (at_any sWire l.length 1 w0).mono ?_
      rintro e w1 ⟨⟨g, rfl, hst⟩, hb⟩
      have HST := Lib.hid hst
      have HB1 := Lib.hid hb
      have hres := keep_on hb HRB.out
      obtain ⟨r0, r1, g0, g1⟩ := cell2 hres
      have e0 : ((w1.setCell ⟨w.heap.size, 0, none⟩ (.int .i64 1)).setCell ⟨w.heap.size, 1, none⟩ (.slice (some ⟨g, 0, none⟩) 1 1)).cell? ⟨w.heap.size, 0, none⟩ = some (.int .i64 1) := by
        rw [World.cell?_setCell_other _ _ _ _ (by simp)]
        exact World.cell?_setCell_same _ _ _ r0
      have e1 : ((w1.setCell ⟨w.heap.size, 0, none⟩ (.int .i64 1)).setCell ⟨w.heap.size, 1, none⟩ (.slice (some ⟨g, 0, none⟩) 1 1)).cell? ⟨w.heap.size, 1, none⟩ = some (.slice (some ⟨g, 0, none⟩) 1 1) :=
        World.cell?_setCell_same (u := .slice none 0 0) _ _ _ (by rw [World.cell?_setCell_other _ _ _ _ (by simp)]; exact r1)
      have HS2 := Lib.hid (stepsOwn_set (j := 1) (u := .slice (some ⟨g, 0, none⟩) 1 1) (n := 1) (stepsOwn_set (j := 0) (u := .int .i64 1) hst r0) (World.cell?_setCell_same _ _ _ r0))
      clear hst hb hres c0
      go_wp2
      refine bodyPost_ret (v := .agg #[.int .i64 1, .slice (some ⟨g, 0, none⟩) 1 1]) ?_ rfl ⟨g, rfl, HS2.out, ((HB0.out.trans (HB1.out.mono HB0.out.size)).setCell (Nat.le_refl _) _).setCell (Nat.le_refl _) _⟩
      simp [results, Tryd.results32, go_sem, e0, e1]
    · have hn2 : 6 < n := by omega
      clear hn hx
      go_enter Tryd.func32, Tryd.ntmps32
      go_wp2_with fail
      generalize w.alloc (.cells #[.int .i64 0, .slice none 0 0] 37) = w0 at *
      refine (at_any sWire l.length 1 w0).mono ?_
      rintro e w1 ⟨⟨g, rfl, hst⟩, hb⟩
      have HST := Lib.hid hst
      have HB1 := Lib.hid hb
      have hres := keep_on hb HRB.out
      obtain ⟨r0, r1, g0, g1⟩ := cell2 hres
      have e0 : ((w1.setCell ⟨w.heap.size, 0, none⟩ (.int .i64 1)).setCell ⟨w.heap.size, 1, none⟩ (.slice (some ⟨g, 0, none⟩) 1 1)).cell? ⟨w.heap.size, 0, none⟩ = some (.int .i64 1) := by
        rw [World.cell?_setCell_other _ _ _ _ (by simp)]
        exact World.cell?_setCell_same _ _ _ r0
      have e1 : ((w1.setCell ⟨w.heap.size, 0, none⟩ (.int .i64 1)).setCell ⟨w.heap.size, 1, none⟩ (.slice (some ⟨g, 0, none⟩) 1 1)).cell? ⟨w.heap.size, 1, none⟩ = some (.slice (some ⟨g, 0, none⟩) 1 1) :=
        World.cell?_setCell_same (u := .slice none 0 0) _ _ _ (by rw [World.cell?_setCell_other _ _ _ _ (by simp)]; exact r1)
      have HS2 := Lib.hid (stepsOwn_set (j := 1) (u := .slice (some ⟨g, 0, none⟩) 1 1) (n := 1) (stepsOwn_set (j := 0) (u := .int .i64 1) hst r0) (World.cell?_setCell_same _ _ _ r0))
      clear hst hb hres c0
      go_wp2
      refine bodyPost_ret (v := .agg #[.int .i64 1, .slice (some ⟨g, 0, none⟩) 1 1]) ?_ rfl ⟨g, rfl, HS2.out, ((HB0.out.trans (HB1.out.mono HB0.out.size)).setCell (Nat.le_refl _) _).setCell (Nat.le_refl _) _⟩
      simp [results, Tryd.results32, go_sem, e0, e1]
end Go.Proofs.YtpdngcjgfngnjaaDoor
