/- yardlaw8.RtuTwo answers true for every argument; memory that was there stands. -/
import Derived.Test.YthcehcfeedikkaaSilence
namespace Go.Proofs.Ythcehcfeedikkaa
open Go.RowKit Go.Extern.Stop Go.Stop Go.Extern

theorem info22 : (Try.prog.info? 22).map (fun i => (i.zero, i.size, i.bytes)) = some (some (.slice none 0 0), 1, 24) := by kernel_rfl
/-- A list of rows of bytes that one owns. -/
def OutAt (w : World) (B : Nat) (o : Value) (ls : List (List UInt8)) : Prop :=
  ∃ vs : List Value, w.ownsRow B 22 1 o ls.length vs ∧ vs.length = ls.length ∧ ∀ j (h1 : j < vs.length) (h2 : j < ls.length), w.ownsRow B 5 1 vs[j] ls[j].length (bcells ls[j])
theorem any_form {w : World} {e : TypeId} {base n sz : Nat} {v : Value} {xs : List Value} (h : w.ownsRow base e sz v n xs) : ∃ a c, v = .slice a n c := by
  rcases h.2 with ⟨hv, h0⟩ | ⟨g, cap, cur, hv, _⟩
  · exact ⟨none, 0, by rw [hv, h0]⟩
  · exact ⟨_, _, hv⟩
theorem row_not {w : World} {e : TypeId} {base : Nat} {v : Value} {n : Nat} {xs : List Value} (h : w.ownsRow base e 1 v n xs) {r : Nat} {cs : Array Value} {t : TypeId} {fr : Nat × Nat} (hr : w.heap[r]? = some (.cells cs t fr)) (ht : t ≠ e) : v.ownBlock ≠ some r := fun e' => by
  rcases h.2 with ⟨hv, _⟩ | ⟨g, cap, cur, hv, _, hh, _⟩
  · rw [hv] at e'; cases e'
  · rw [hv] at e'
    have : g = r := by simpa [Value.ownBlock] using e'
    rw [this, hr] at hh
    simp only [Option.some.injEq, Obj.cells.injEq] at hh
    exact ht hh.2.1
theorem OutAt.off {w w' : World} {B b : Nat} {o : Value} {ls : List (List UInt8)} (h : OutAt w B o ls) {cs : Array Value} (hb : w.heap[b]? = some (.cells cs 47 (0, 0))) (hk : Off (fun k => k = b) w w') : OutAt w' B o ls := by
  obtain ⟨vs, h1, h2, h3⟩ := h
  exact ⟨vs, ownsRow_off h1 hk (fun k e s => row_not h1 hb (by decide) (by rw [e, s])), h2, fun j a c => ownsRow_off (h3 j a c) hk (fun k e s => row_not (h3 j a c) hb (by decide) (by rw [e, s]))⟩
theorem OutAt.on {w w' : World} {B : Nat} {o : Value} {ls : List (List UInt8)} (h : OutAt w B o ls) (hk : Below w.heap.size w w') : OutAt w' B o ls := by
  obtain ⟨vs, h1, h2, h3⟩ := h
  exact ⟨vs, ownsRow_off h1 (Off.of_below (fun _ => False) hk) (fun _ _ f => f), h2, fun j a c => ownsRow_off (h3 j a c) (Off.of_below (fun _ => False) hk) (fun _ _ f => f)⟩
theorem OutAt.nil (w : World) (B : Nat) : OutAt w B (.slice none 0 0) [] := ⟨[], World.ownsRow_nil _ _ _ _, rfl, fun j h => by simp at h⟩
/-- The list is appended to. -/
theorem OutAt.push {w w' : World} {B : Nat} {o o' v : Value} {ls : List (List UInt8)} {l : List UInt8} {vs : List Value} (h2 : vs.length = ls.length) (h3 : ∀ j (h1 : j < vs.length) (h2 : j < ls.length), w.ownsRow B 5 1 vs[j] ls[j].length (bcells ls[j]))
    (h1 : w.ownsRow B 22 1 o ls.length vs) (hv : w.ownsRow B 5 1 v l.length (bcells l)) (hg : w.grownBy w' o.ownBlock) (ho : w'.ownsRow B 22 1 o' (ls.length + 1) (vs ++ [v])) : OutAt w' B o' (ls ++ [l]) := by
  have key : ∀ {u : Value} {m : List UInt8}, w.ownsRow B 5 1 u m.length (bcells m) → w'.ownsRow B 5 1 u m.length (bcells m) := fun {u m} hu => ownsRow_off hu (Off.of_grown hg) (fun k e s => by
    rcases h1.2 with ⟨hn, _⟩ | ⟨g, cap, cur, hn, _, hh, _⟩
    · rw [hn] at s; cases s
    · rw [hn] at s
      have : g = k := by simpa [Value.ownBlock] using s
      exact row_not hu hh (by decide) (by rw [e, this]))
  refine ⟨vs ++ [v], by rw [List.length_append]; exact ho, by simp [h2], fun j a c => ?_⟩
  by_cases hj : j < vs.length
  · have e1 : (vs ++ [v])[j] = vs[j] := List.getElem_append_left hj
    have e2 : (ls ++ [l])[j] = ls[j]'(by omega) := List.getElem_append_left (by omega)
    rw [e1, e2]
    exact key (h3 j hj (by omega))
  · have hj2 : j = vs.length := by simp at a; omega
    subst hj2
    have e1 : (vs ++ [v])[vs.length] = v := by simp
    have e2 : (ls ++ [l])[vs.length] = l := by simp [h2]
    rw [e1, e2]
    exact key hv
theorem OutAt.form {w : World} {B : Nat} {o : Value} {ls : List (List UInt8)} (h : OutAt w B o ls) (hn : 0 < ls.length) : ∃ g c, o = .slice (some ⟨g, 0, none⟩) ls.length c ∧ ∀ j (hj : j < ls.length), ∃ v, w.cell? ⟨g, j, none⟩ = some v ∧ w.ownsRow B 5 1 v ls[j].length (bcells ls[j]) := by
  obtain ⟨vs, h1, h2, h3⟩ := h
  obtain ⟨g, c, rfl, _⟩ := h1.form hn
  exact ⟨g, c, rfl, fun j hj => ⟨vs[j]'(by omega), (h1.cellAt j (by omega)).trans (List.getElem?_eq_getElem (by omega)), h3 j (by omega) hj⟩⟩

set_option maxRecDepth 100000 in
set_option maxHeartbeats 2000000 in
theorem two_new (ao bo : Option Addr) (na nb ca cb : Nat) (s : Int) (w : World) (hs : s < 1 ∨ 100 < s) : Calls Try.prog 5 #[.int .i64 s, .slice ao na ca, .slice bo nb cb] w (TrueIs w) := by
  go_enter Try.func5, Try.ntmps5
  go_wp2_with fail
  refine (first_any w).mono ?_
  rintro e w1 ⟨rfl, hb⟩
  have X1 := Lib.hid hb
  clear hb
  go_wp2_with fail
  refine (new_no s w1 hs).mono ?_
  rintro e w2 ⟨x, rfl, hx, hb⟩
  obtain ⟨bx, rfl⟩ := hx.form
  have X2 := Lib.hid (X1.out.trans (hb.mono X1.out.size))
  clear hb hx
  go_wp2_with fail
  refine (first_any w2).mono ?_
  rintro e w3 ⟨rfl, hb⟩
  have X3 := Lib.hid (X2.out.trans (hb.mono X2.out.size))
  clear hb
  go_wp2
  go_ret
  exact ⟨rfl, X3.out⟩

set_option maxRecDepth 100000 in
set_option maxHeartbeats 2000000 in
theorem two_out (ao bo : Option Addr) (na nb ca cb : Nat) (s : Int) (w : World) (ha : na ≤ 9223372036854775807) (hb' : nb ≤ 9223372036854775807) (h1 : 1 ≤ s) (h2 : s ≤ 100) (h : na = 0 ∨ nb = 0 ∨ 100 < na ∨ 100 < nb) : Calls Try.prog 5 #[.int .i64 s, .slice ao na ca, .slice bo nb cb] w (TrueIs w) := by
  have HS := Lib.hid (And.intro h1 h2)
  have hl : ((na : Int) == 0) = true ∨ (((na : Int) == 0) = false ∧ ((nb : Int) == 0) = true) ∨ (((na : Int) == 0) = false ∧ ((nb : Int) == 0) = false ∧ (100 : Int) < (na : Int)) ∨ (((na : Int) == 0) = false ∧ ((nb : Int) == 0) = false ∧ ¬ (100 : Int) < (na : Int) ∧ (100 : Int) < (nb : Int)) := by
    by_cases h3 : na = 0
    · exact .inl (beq_iff_eq.2 (by omega))
    · have e1 : ((na : Int) == 0) = false := beq_eq_false_iff_ne.2 (by omega)
      by_cases h4 : nb = 0
      · exact .inr (.inl ⟨e1, beq_iff_eq.2 (by omega)⟩)
      · have e2 : ((nb : Int) == 0) = false := beq_eq_false_iff_ne.2 (by omega)
        by_cases h5 : 100 < na
        · exact .inr (.inr (.inl ⟨e1, e2, by omega⟩))
        · exact .inr (.inr (.inr ⟨e1, e2, by omega, by omega⟩))
  clear h1 h2 h
  rcases hl with h | ⟨h, h'⟩ | ⟨h, h', h''⟩ | ⟨h, h', h'', h9⟩ <;> (
    go_enter Try.func5, Try.ntmps5
    go_wp2_with fail
    refine (first_any w).mono ?_
    rintro e w1 ⟨rfl, hb⟩
    have X1 := Lib.hid hb
    clear hb
    go_wp2_with fail
    refine (new_ok s w1 HS.out.1 HS.out.2).mono ?_
    rintro e w2 ⟨rfl, h0, hb⟩
    have X2 := Lib.hid (X1.out.trans (hb.mono X1.out.size))
    clear hb h0
    go_wp2_with fail
    refine (first_any w2).mono ?_
    rintro e w3 ⟨rfl, hb⟩
    have X3 := Lib.hid (X2.out.trans (hb.mono X2.out.size))
    clear hb
    go_wp2
    go_ret
    exact ⟨rfl, X3.out⟩)

set_option maxRecDepth 100000 in
set_option maxHeartbeats 8000000 in
theorem two_in (ao bo : Option Addr) (ca cb : Nat) (a b : List UInt8) (s : Nat) (w : World) (hva : BytesAt w (.slice ao a.length ca) a) (hvb : BytesAt w (.slice bo b.length cb) b) (ha0 : 0 < a.length) (hb0 : 0 < b.length) (ha1 : a.length ≤ 100) (hb1 : b.length ≤ 100) (h1 : 1 ≤ s) (h2 : s ≤ 100) : Calls Try.prog 5 #[.int .i64 (s : Int), .slice ao a.length ca, .slice bo b.length cb] w (TrueIs w) := by
  obtain ⟨i0, hi0, hz0, hz1, hz2⟩ := info_parts info22
  have HA := Lib.hid hva
  have HB := Lib.hid hvb
  have e1 : ((a.length : Int) == 0) = false := beq_eq_false_iff_ne.2 (by omega)
  have e2 : ((b.length : Int) == 0) = false := beq_eq_false_iff_ne.2 (by omega)
  have e3 : decide ((100 : Int) < (a.length : Int)) = false := decide_eq_false (by omega)
  have e4 : decide ((100 : Int) < (b.length : Int)) = false := decide_eq_false (by omega)
  clear hva hvb
  go_enter Try.func5, Try.ntmps5
  go_wp2_with fail
  refine (first_any w).mono ?_
  rintro e w1 ⟨rfl, hb⟩
  have X1 := Lib.hid hb
  clear hb
  go_wp2_with fail
  refine (new_ok s w1 (by omega) (by omega)).mono ?_
  rintro e w2 ⟨rfl, hf, hb⟩
  have F2 := Lib.hid hf
  have X2 := Lib.hid hb
  clear hb hf
  go_wp2_with fail
  go_loopg [9, 10] 2 (fun k s9 s10 wr => ∃ i : Nat, i ≤ 2 ∧ k = 2 - i ∧ s10 = .int .i64 i ∧ Hid (OutAt wr w1.heap.size s9 ([a, b].take i) ∧ (∃ q : Int, Fm0 wr w1.heap.size s q) ∧ Below w1.heap.size w1 wr))
  case atStart => exact ⟨0, Nat.zero_le _, rfl, rfl, Lib.hid ⟨OutAt.nil _ _, ⟨0, F2.out⟩, X2.out⟩⟩
  case round =>
    obtain ⟨i, hi, rfl, rfl, HI⟩ := hrel
    obtain ⟨wo, hwo⟩ : ∃ x, x = wr := ⟨_, rfl⟩
    subst hwo
    obtain ⟨o, hoo⟩ : ∃ x, x = u9 := ⟨_, rfl⟩
    subst hoo
    obtain ⟨HO, ⟨q, HQ⟩, XO⟩ := HI.out
    have HO := Lib.hid HO
    have HQ := Lib.hid HQ
    have XO := Lib.hid XO
    clear HI
    match i, hi with
    | 0, _ =>
      have HX : Hid (BytesAt w (.slice ao a.length ca) a) := HA
      have HLS : Hid ([a, b].take 0 ++ [a] = [a, b].take (0 + 1)) := Lib.hid rfl
      go_wp2_with fail
      go_loopg [12] a.length (fun k s12 wr => ∃ j : Nat, j ≤ a.length ∧ k = a.length - j ∧ s12 = .int .i64 j ∧ Hid (∃ q : Int, Fm wo w1.heap.size s q (a.take j) wr ∧ (0 < j → q = 0)))
      case atStart => exact ⟨0, Nat.zero_le _, rfl, rfl, Lib.hid ⟨q, HQ.out.fm, fun h => absurd h (by omega)⟩⟩
      case round =>
        obtain ⟨j, hj, rfl, rfl, HJ⟩ := hrel
        obtain ⟨wj, hwj⟩ : ∃ x, x = wr := ⟨_, rfl⟩
        subst hwj
        obtain ⟨qj, HFJ, hqj⟩ := HJ.out
        have HFJ := Lib.hid HFJ
        clear HJ
        by_cases hlt : j < a.length
        · clear hqj
          obtain ⟨bb, oo, hoo, hc⟩ := HX.out.at' j hlt
          have hcj : wj.cell? ⟨bb, oo + j, none⟩ = some (.int .u8 (a[j].toNat : Int)) := by
            have hX := XO.out
            have hl1 : bb < w.heap.size := lt_cell hc
            have hc1 : w1.cell? ⟨bb, oo + j, none⟩ = w.cell? ⟨bb, oo + j, none⟩ := X1.out.cell (p := ⟨bb, oo + j, none⟩) hl1
            have hc2 : wo.cell? ⟨bb, oo + j, none⟩ = w1.cell? ⟨bb, oo + j, none⟩ := XO.out.cell (p := ⟨bb, oo + j, none⟩) (Nat.lt_of_lt_of_le hl1 X1.out.size)
            have hb3 : wj.heap[bb]? = wo.heap[bb]? := HFJ.out.off0.block bb (Nat.lt_of_lt_of_le hl1 (Nat.le_trans X1.out.size XO.out.size)) (fun e => by have := X1.out.size; omega)
            have hc3 : wj.cell? ⟨bb, oo + j, none⟩ = wo.cell? ⟨bb, oo + j, none⟩ := by simp only [World.cell?, hb3]
            rw [hc3, hc2, hc1]; exact hc
          clear hc
          have HP : Hid (pushB (a.take j) a[j] = a.take (j + 1)) := Lib.hid (push_take a j hlt (by omega))
          have hbl := byte_lt a[j]
          generalize hx : a[j] = x at *
          clear hx
          subst hoo
          go_wp2_with fail
          refine (byte_any wo wj _ s qj (a.take j) x HFJ.out (by rw [List.length_take]; omega)).mono ?_
          rintro e w3 ⟨rfl, h⟩
          rw [HP.out] at h
          have H3 := Lib.hid h
          clear h
          go_wp2
          go_roundg (a.length - (j + 1))
          case measure => omega
          case rel => exact ⟨j + 1, by omega, rfl, by go_num, Lib.hid ⟨0, H3.out, fun _ => rfl⟩⟩
        · have hj2 : j = a.length := by omega
          subst hj2
          have hq0 : qj = 0 := hqj ha0
          subst hq0
          rw [List.take_length] at HFJ
          clear hqj
          go_wp2_with fail
          go_loopg [9, 13] s (fun k s9 s13 wr => ∃ j : Nat, j ≤ s ∧ k = s - j ∧ s13 = .int .i64 j ∧ Hid ((j < s ∧ o = s9 ∧ Fm wo w1.heap.size s (j : Int) a wr) ∨ (j = s ∧ OutAt wr w1.heap.size s9 ([a, b].take (0 + 1)) ∧ (∃ q : Int, Fm0 wr w1.heap.size s q) ∧ Below w1.heap.size w1 wr)))
          case atStart => exact ⟨0, Nat.zero_le _, rfl, rfl, Lib.hid (.inl ⟨by omega, rfl, HFJ.out⟩)⟩
          case round =>
            obtain ⟨t, ht, rfl, rfl, HT⟩ := hrel
            obtain ⟨wt, hwt⟩ : ∃ x, x = wr := ⟨_, rfl⟩
            subst hwt
            by_cases hlt2 : t < s
            · obtain ⟨_, hso, HF⟩ | ⟨hts, _⟩ := HT.out
              · have HF := Lib.hid HF
                clear HT
                subst hso
                by_cases hts : t + 1 < s
                · go_wp2_with fail
                  refine (tick_more wo wt _ t s a HF.out ha0 (by omega) (by omega)).mono ?_
                  rintro e w3 ⟨rfl, h⟩
                  have H3 := Lib.hid h
                  clear h
                  go_wp2
                  go_roundg (s - (t + 1))
                  case measure => omega
                  case rel => exact ⟨t + 1, by omega, rfl, by go_num, Lib.hid (.inl ⟨hts, rfl, H3.out⟩)⟩
                · go_wp2_with fail
                  refine (tick_end wo wt _ t s a HF.out ha0 (by omega) (by omega)).mono ?_
                  rintro e w3 ⟨v3, rfl, ho3, hf3, hoff3⟩
                  have HL3 := HO.out.off HQ.out hoff3
                  obtain ⟨vs, hv1, hv2, hv3⟩ := HL3
                  obtain ⟨g3, k3, rfl, _, _⟩ := row_lit ho3 ha0
                  have ho3' := own_base ho3 XO.out.size
                  obtain ⟨oa, oc, rfl⟩ : ∃ oa oc, o = .slice oa 0 oc := any_form hv1
                  have V1 := Lib.hid hv1
                  have V2 := Lib.hid hv2
                  have V3 := Lib.hid hv3
                  have V4 := Lib.hid ho3'
                  have V5 := Lib.hid hf3
                  have B3 : Hid (Below w1.heap.size w1 w3) := Lib.hid (XO.out.trans (hoff3.below XO.out.size (fun k e => by rw [e]; exact Nat.le_refl _)))
                  clear hv1 hv2 hv3 ho3 ho3' hf3 hoff3
                  go_wp2_with (at_builtin; refine wpList_append_lies _ rfl _ _ 40 rfl w1.heap.size 22 i0 _ 1 24 Try.underlying40 hi0 hz0 hz1 hz2 rfl (by omega) _ 0 vs rfl (V1.out.alloc _) ⟨w3.heap.size, 0, none⟩ 1 1 [.slice (some ⟨g3, 0, none⟩) a.length k3] rfl rfl (World.news_of_block (cs := #[.slice (some ⟨g3, 0, none⟩) a.length k3]) (heap_alloc_new w3 _)) (by simp [Value.oneCell']) (by omega) (by unfold maxLen; omega) (by omega) (by have := B3.out.size; simp; omega) (w3.heap.size + 1) (by simp) ?_)
                  intro g4 c4 w4 ho4 hg4 hat4 hlt4
                  have HD : Hid (OutAt w4 w1.heap.size (.slice (some ⟨g4, 0, none⟩) (0 + 1) c4) ([a, b].take (0 + 1))) := Lib.hid (by
                    rw [← HLS.out]
                    refine OutAt.push (w := w3.alloc _) (vs := vs) (v := .slice (some ⟨g3, 0, none⟩) a.length k3) V2.out (fun j q1 q2 => (V3.out j q1 q2).alloc _) (V1.out.alloc _) (V4.out.alloc _) hg4 ?_
                    exact ho4)
                  have HE : Hid (Fm0 w4 w1.heap.size s ((t + 1 : Nat) : Int)) := Lib.hid (by
                    have h5 : (w3.alloc (.cells #[.slice (some ⟨g3, 0, none⟩) a.length k3] 22)).heap[w1.heap.size]? = some (.cells #[.int .i64 (s : Int), .int .i64 ((t + 1 : Nat) : Int), .slice none 0 0] 47 (0, 0)) := ((below_new w3 _).block _ (lt_heap V5.out)).trans V5.out
                    exact (hg4.block _ (lt_heap h5) (fun e => row_not (V1.out.alloc _) h5 (by decide) e.symm)).trans h5)
                  have HB4 : Hid (Below w1.heap.size w1 w4) := Lib.hid ((B3.out.alloc B3.out.size _).grown hg4 (by have := B3.out.size; simp; omega) (fun j hj => (V1.out.lt j hj).1))
                  clear ho4 hg4 hat4 hlt4
                  go_wp2
                  go_roundg (s - (t + 1))
                  case measure => omega
                  case rel => exact ⟨t + 1, by omega, rfl, by go_num, Lib.hid (.inr ⟨by omega, HD.out, ⟨_, HE.out⟩, HB4.out⟩)⟩
              · exact absurd hts (by omega)
            · obtain ⟨hts, _, _⟩ | ⟨_, HL, HQ2, HB2⟩ := HT.out
              · exact absurd hts (by omega)
              · have HR := Lib.hid (And.intro HL (And.intro HQ2 HB2))
                clear HT HL HQ2 HB2
                go_wp2
                go_roundg (2 - (0 + 1))
                case measure => omega
                case rel => exact ⟨0 + 1, by omega, rfl, by go_num, HR⟩
    | 1, _ =>
      have HX : Hid (BytesAt w (.slice bo b.length cb) b) := HB
      have HLS : Hid ([a, b].take 1 ++ [b] = [a, b].take (1 + 1)) := Lib.hid rfl
      go_wp2_with fail
      go_loopg [12] b.length (fun k s12 wr => ∃ j : Nat, j ≤ b.length ∧ k = b.length - j ∧ s12 = .int .i64 j ∧ Hid (∃ q : Int, Fm wo w1.heap.size s q (b.take j) wr ∧ (0 < j → q = 0)))
      case atStart => exact ⟨0, Nat.zero_le _, rfl, rfl, Lib.hid ⟨q, HQ.out.fm, fun h => absurd h (by omega)⟩⟩
      case round =>
        obtain ⟨j, hj, rfl, rfl, HJ⟩ := hrel
        obtain ⟨wj, hwj⟩ : ∃ x, x = wr := ⟨_, rfl⟩
        subst hwj
        obtain ⟨qj, HFJ, hqj⟩ := HJ.out
        have HFJ := Lib.hid HFJ
        clear HJ
        by_cases hlt : j < b.length
        · clear hqj
          obtain ⟨bb, oo, hoo, hc⟩ := HX.out.at' j hlt
          have hcj : wj.cell? ⟨bb, oo + j, none⟩ = some (.int .u8 (b[j].toNat : Int)) := by
            have hX := XO.out
            have hl1 : bb < w.heap.size := lt_cell hc
            have hc1 : w1.cell? ⟨bb, oo + j, none⟩ = w.cell? ⟨bb, oo + j, none⟩ := X1.out.cell (p := ⟨bb, oo + j, none⟩) hl1
            have hc2 : wo.cell? ⟨bb, oo + j, none⟩ = w1.cell? ⟨bb, oo + j, none⟩ := XO.out.cell (p := ⟨bb, oo + j, none⟩) (Nat.lt_of_lt_of_le hl1 X1.out.size)
            have hb3 : wj.heap[bb]? = wo.heap[bb]? := HFJ.out.off0.block bb (Nat.lt_of_lt_of_le hl1 (Nat.le_trans X1.out.size XO.out.size)) (fun e => by have := X1.out.size; omega)
            have hc3 : wj.cell? ⟨bb, oo + j, none⟩ = wo.cell? ⟨bb, oo + j, none⟩ := by simp only [World.cell?, hb3]
            rw [hc3, hc2, hc1]; exact hc
          clear hc
          have HP : Hid (pushB (b.take j) b[j] = b.take (j + 1)) := Lib.hid (push_take b j hlt (by omega))
          have hbl := byte_lt b[j]
          generalize hx : b[j] = x at *
          clear hx
          subst hoo
          go_wp2_with fail
          refine (byte_any wo wj _ s qj (b.take j) x HFJ.out (by rw [List.length_take]; omega)).mono ?_
          rintro e w3 ⟨rfl, h⟩
          rw [HP.out] at h
          have H3 := Lib.hid h
          clear h
          go_wp2
          go_roundg (b.length - (j + 1))
          case measure => omega
          case rel => exact ⟨j + 1, by omega, rfl, by go_num, Lib.hid ⟨0, H3.out, fun _ => rfl⟩⟩
        · have hj2 : j = b.length := by omega
          subst hj2
          have hq0 : qj = 0 := hqj hb0
          subst hq0
          rw [List.take_length] at HFJ
          clear hqj
          go_wp2_with fail
          go_loopg [9, 13] s (fun k s9 s13 wr => ∃ j : Nat, j ≤ s ∧ k = s - j ∧ s13 = .int .i64 j ∧ Hid ((j < s ∧ o = s9 ∧ Fm wo w1.heap.size s (j : Int) b wr) ∨ (j = s ∧ OutAt wr w1.heap.size s9 ([a, b].take (1 + 1)) ∧ (∃ q : Int, Fm0 wr w1.heap.size s q) ∧ Below w1.heap.size w1 wr)))
          case atStart => exact ⟨0, Nat.zero_le _, rfl, rfl, Lib.hid (.inl ⟨by omega, rfl, HFJ.out⟩)⟩
          case round =>
            obtain ⟨t, ht, rfl, rfl, HT⟩ := hrel
            obtain ⟨wt, hwt⟩ : ∃ x, x = wr := ⟨_, rfl⟩
            subst hwt
            by_cases hlt2 : t < s
            · obtain ⟨_, hso, HF⟩ | ⟨hts, _⟩ := HT.out
              · have HF := Lib.hid HF
                clear HT
                subst hso
                by_cases hts : t + 1 < s
                · go_wp2_with fail
                  refine (tick_more wo wt _ t s b HF.out hb0 (by omega) (by omega)).mono ?_
                  rintro e w3 ⟨rfl, h⟩
                  have H3 := Lib.hid h
                  clear h
                  go_wp2
                  go_roundg (s - (t + 1))
                  case measure => omega
                  case rel => exact ⟨t + 1, by omega, rfl, by go_num, Lib.hid (.inl ⟨hts, rfl, H3.out⟩)⟩
                · go_wp2_with fail
                  refine (tick_end wo wt _ t s b HF.out hb0 (by omega) (by omega)).mono ?_
                  rintro e w3 ⟨v3, rfl, ho3, hf3, hoff3⟩
                  have HL3 := HO.out.off HQ.out hoff3
                  obtain ⟨vs, hv1, hv2, hv3⟩ := HL3
                  obtain ⟨g3, k3, rfl, _, _⟩ := row_lit ho3 hb0
                  have ho3' := own_base ho3 XO.out.size
                  obtain ⟨oa, oc, rfl⟩ : ∃ oa oc, o = .slice oa 1 oc := any_form hv1
                  have V1 := Lib.hid hv1
                  have V2 := Lib.hid hv2
                  have V3 := Lib.hid hv3
                  have V4 := Lib.hid ho3'
                  have V5 := Lib.hid hf3
                  have B3 : Hid (Below w1.heap.size w1 w3) := Lib.hid (XO.out.trans (hoff3.below XO.out.size (fun k e => by rw [e]; exact Nat.le_refl _)))
                  clear hv1 hv2 hv3 ho3 ho3' hf3 hoff3
                  go_wp2_with (at_builtin; refine wpList_append_lies _ rfl _ _ 40 rfl w1.heap.size 22 i0 _ 1 24 Try.underlying40 hi0 hz0 hz1 hz2 rfl (by omega) _ 1 vs rfl (V1.out.alloc _) ⟨w3.heap.size, 0, none⟩ 1 1 [.slice (some ⟨g3, 0, none⟩) b.length k3] rfl rfl (World.news_of_block (cs := #[.slice (some ⟨g3, 0, none⟩) b.length k3]) (heap_alloc_new w3 _)) (by simp [Value.oneCell']) (by omega) (by unfold maxLen; omega) (by omega) (by have := B3.out.size; simp; omega) (w3.heap.size + 1) (by simp) ?_)
                  intro g4 c4 w4 ho4 hg4 hat4 hlt4
                  have HD : Hid (OutAt w4 w1.heap.size (.slice (some ⟨g4, 0, none⟩) (1 + 1) c4) ([a, b].take (1 + 1))) := Lib.hid (by
                    rw [← HLS.out]
                    refine OutAt.push (w := w3.alloc _) (vs := vs) (v := .slice (some ⟨g3, 0, none⟩) b.length k3) V2.out (fun j q1 q2 => (V3.out j q1 q2).alloc _) (V1.out.alloc _) (V4.out.alloc _) hg4 ?_
                    exact ho4)
                  have HE : Hid (Fm0 w4 w1.heap.size s ((t + 1 : Nat) : Int)) := Lib.hid (by
                    have h5 : (w3.alloc (.cells #[.slice (some ⟨g3, 0, none⟩) b.length k3] 22)).heap[w1.heap.size]? = some (.cells #[.int .i64 (s : Int), .int .i64 ((t + 1 : Nat) : Int), .slice none 0 0] 47 (0, 0)) := ((below_new w3 _).block _ (lt_heap V5.out)).trans V5.out
                    exact (hg4.block _ (lt_heap h5) (fun e => row_not (V1.out.alloc _) h5 (by decide) e.symm)).trans h5)
                  have HB4 : Hid (Below w1.heap.size w1 w4) := Lib.hid ((B3.out.alloc B3.out.size _).grown hg4 (by have := B3.out.size; simp; omega) (fun j hj => (V1.out.lt j hj).1))
                  clear ho4 hg4 hat4 hlt4
                  go_wp2
                  go_roundg (s - (t + 1))
                  case measure => omega
                  case rel => exact ⟨t + 1, by omega, rfl, by go_num, Lib.hid (.inr ⟨by omega, HD.out, ⟨_, HE.out⟩, HB4.out⟩)⟩
              · exact absurd hts (by omega)
            · obtain ⟨hts, _, _⟩ | ⟨_, HL, HQ2, HB2⟩ := HT.out
              · exact absurd hts (by omega)
              · have HR := Lib.hid (And.intro HL (And.intro HQ2 HB2))
                clear HT HL HQ2 HB2
                go_wp2
                go_roundg (2 - (1 + 1))
                case measure => omega
                case rel => exact ⟨1 + 1, by omega, rfl, by go_num, HR⟩
    | 2, _ =>
      obtain ⟨g5, c5, rfl, hcs⟩ := HO.out.form (by simp)
      obtain ⟨va, hca, hoa⟩ := hcs 0 (by simp)
      obtain ⟨vb, hcb, hob⟩ := hcs 1 (by simp)
      have hlo : g5 < wo.heap.size := lt_cell hca
      obtain ⟨ga, ka, rfl, _, _⟩ := row_lit hoa ha0
      obtain ⟨gb, kb, rfl, _, _⟩ := row_lit hob hb0
      have VA := Lib.hid (bytesAt_own hoa)
      have VB := Lib.hid (bytesAt_own hob)
      have XT := Lib.hid (X1.out.trans (XO.out.mono X1.out.size))
      have HC := Lib.hid (And.intro hca hcb)
      clear hca hcb hoa hob hcs
      go_wp2_with fail
      refine (first_any wo).mono ?_
      rintro e w3 ⟨rfl, hb⟩
      have VA3 := Lib.hid (VA.out.on hb)
      have VB3 := Lib.hid (VB.out.on hb)
      have X3 := Lib.hid (XT.out.trans (hb.mono XT.out.size))
      have ca3 : w3.cell? ⟨g5, 0, none⟩ = some (.slice (some ⟨ga, 0, none⟩) a.length ka) := (hb.cell (lt_cell HC.out.1)).trans HC.out.1
      have cb3 : w3.cell? ⟨g5, 1, none⟩ = some (.slice (some ⟨gb, 0, none⟩) b.length kb) := (hb.cell (lt_cell HC.out.2)).trans HC.out.2
      clear hb
      go_wp2_with fail
      refine (alike_any _ _ a a w3 VA3.out (HA.out.on X3.out)).mono ?_
      rintro e w5 ⟨rfl, rfl⟩
      rw [beq_self_eq_true]
      go_wp2_with fail
      refine (alike_any _ _ b b w3 VB3.out (HB.out.on X3.out)).mono ?_
      rintro e w5 ⟨rfl, rfl⟩
      rw [beq_self_eq_true]
      go_wp2
      go_ret
      exact ⟨rfl, X3.out⟩
    | i + 3, hi => exact absurd hi (by omega)

theorem two_any (ao bo : Option Addr) (ca cb : Nat) (a b : List UInt8) (s : Int) (w : World) (hva : BytesAt w (.slice ao a.length ca) a) (hvb : BytesAt w (.slice bo b.length cb) b) (hla : a.length ≤ 9223372036854775807) (hlb : b.length ≤ 9223372036854775807) : Calls Try.prog 5 #[.int .i64 s, .slice ao a.length ca, .slice bo b.length cb] w (TrueIs w) := by
  by_cases hs : s < 1 ∨ 100 < s
  · exact two_new ao bo a.length b.length ca cb s w hs
  · by_cases ho : a.length = 0 ∨ b.length = 0 ∨ 100 < a.length ∨ 100 < b.length
    · exact two_out ao bo a.length b.length ca cb s w hla hlb (by omega) (by omega) ho
    · obtain ⟨t, rfl⟩ : ∃ t : Nat, s = (t : Int) := ⟨s.toNat, by omega⟩
      exact two_in ao bo ca cb a b t w hva hvb (by omega) (by omega) (by omega) (by omega) (by omega) (by omega)
end Go.Proofs.Ythcehcfeedikkaa
