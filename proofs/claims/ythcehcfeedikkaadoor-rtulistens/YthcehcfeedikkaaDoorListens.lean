/- yardlaw8.RtuListens answers true for every argument; memory that was there stands. -/
import Derived.Test.YthcehcfeedikkaaDoorPair
import Derived.Test.YthcehcfeedikkaaDoorFrames
namespace Go.Proofs.YthcehcfeedikkaaDoor
open Go.RowKit Go.Extern.Stop Go.Stop Go.Extern

/-- yardlaw8.Op. -/
structure OpV where
  kind : Int
  n : Int
  t : Int
def OpsAt (w : World) (v : Value) (l : List OpV) : Prop :=
  ∃ ao cap, v = .slice ao l.length cap ∧ ∀ i (h : i < l.length), ∃ b off, ao = some ⟨b, off, none⟩ ∧ w.cell? ⟨b, off + i * 3, none⟩ = some (.int .i64 l[i].kind) ∧ w.cell? ⟨b, off + i * 3 + 1, none⟩ = some (.int .i64 l[i].n) ∧ w.cell? ⟨b, off + i * 3 + 2, none⟩ = some (.int .i64 l[i].t)
/-- One call of the list, in every later world. -/
theorem OpsAt.each {w : World} {ao : Option Addr} {n cap : Nat} {l : List OpV} (h : OpsAt w (.slice ao n cap) l) (i : Nat) (hi : i < l.length) : ∃ b off, ao = some ⟨b, off, none⟩ ∧
    ∀ W, Below w.heap.size w W → W.cell? ⟨b, off + i * 3, none⟩ = some (.int .i64 l[i].kind) ∧ W.cell? ⟨b, off + i * 3 + 1, none⟩ = some (.int .i64 l[i].n) ∧ W.cell? ⟨b, off + i * 3 + 2, none⟩ = some (.int .i64 l[i].t) := by
  obtain ⟨ao', cap', he, hc⟩ := h
  simp only [Value.slice.injEq] at he
  obtain ⟨rfl, _, rfl⟩ := he
  obtain ⟨b, off, ha, h0, h1, h2⟩ := hc i hi
  exact ⟨b, off, ha, fun W hb => ⟨(hb.cell (p := ⟨b, off + i * 3, none⟩) (lt_cell h0)).trans h0, (hb.cell (p := ⟨b, off + i * 3 + 1, none⟩) (lt_cell h1)).trans h1, (hb.cell (p := ⟨b, off + i * 3 + 2, none⟩) (lt_cell h2)).trans h2⟩⟩

set_option maxRecDepth 100000 in
set_option maxHeartbeats 2000000 in
theorem listens_new (s : Int) (ao : Option Addr) (n cap : Nat) (w : World) (hg : ErrT w) (hs : s < 1 ∨ 100 < s) : Calls Tryd.prog 4 #[.int .i64 s, .slice ao n cap] w (TrueIs w) := by
  have HS := Lib.hid hs
  have HG := Lib.hid hg
  clear hg
  rcases (show s < 1 ∨ (¬ s < 1 ∧ 100 < s) by omega) with q1 | ⟨q1, q2⟩ <;> (
    clear hs
    go_enter Tryd.func4, Tryd.ntmps4
    go_wp2_with fail
    refine (first_any w).mono ?_
    rintro e w1 ⟨rfl, hb⟩
    have X1 := Lib.hid hb
    clear hb
    go_wp2_with fail
    refine (new_no s w1 HS.out).mono ?_
    rintro e w2 ⟨x, rfl, hx, hb⟩
    obtain ⟨bx, rfl⟩ := hx.form
    have R2 := Lib.hid hx
    have X2 := Lib.hid (X1.out.trans (hb.mono X1.out.size))
    clear hb hx
    go_wp2_with fail
    refine (first_any w2).mono ?_
    rintro e w3 ⟨rfl, hb⟩
    have X3 := Lib.hid (X2.out.trans (hb.mono X2.out.size))
    have R3 := Lib.hid (R2.out.on hb)
    clear hb
    go_wp2_with fail
    refine (at_any sRtu s 1 w3).mono ?_
    rintro e w4 ⟨⟨g, rfl, hs4, _⟩, hb⟩
    have X4 := Lib.hid (X3.out.trans (hb.mono X3.out.size))
    have R4 := Lib.hid (R3.out.on hb)
    have S4 := Lib.hid hs4
    clear hb hs4
    go_wp2_with fail
    refine (err_same 1 s _ _ 1 w4 (HG.out.up X4.out) (.inr ⟨by decide, R4.out⟩) (.inr ⟨by decide, rfl, S4.out⟩)).mono ?_
    rintro e w5 ⟨rfl, hb⟩
    have X5 := Lib.hid (X4.out.trans (hb.mono X4.out.size))
    clear hb
    go_wp2
    go_ret
    exact ⟨rfl, X5.out⟩)

set_option maxRecDepth 100000 in
set_option maxHeartbeats 2000000 in
theorem listens_long (s : Int) (ao : Option Addr) (n cap : Nat) (w : World) (h1 : 1 ≤ s) (h2 : s ≤ 100) (hn : n ≤ 9223372036854775807) (h : 100 < n) : Calls Tryd.prog 4 #[.int .i64 s, .slice ao n cap] w (TrueIs w) := by
  have HS := Lib.hid (And.intro h1 h2)
  have q1 : ¬ s < 1 := by omega
  have q2 : ¬ 100 < s := by omega
  have q3 : (100 : Int) < (n : Int) := by omega
  clear h1 h2 h
  go_enter Tryd.func4, Tryd.ntmps4
  go_wp2_with fail
  refine (first_any w).mono ?_
  rintro e w1 ⟨rfl, hb⟩
  have X1 := Lib.hid hb
  clear hb
  go_wp2_with fail
  refine (new_ok s w1 HS.out.1 HS.out.2).mono ?_
  rintro e w2 ⟨rfl, h0, hb⟩
  have X2 := Lib.hid (X1.out.trans (hb.mono X1.out.size))
  clear hb h0
  go_wp2_with fail
  refine (first_any w2).mono ?_
  rintro e w3 ⟨rfl, hb⟩
  have X3 := Lib.hid (X2.out.trans (hb.mono X2.out.size))
  clear hb
  go_wp2
  go_ret
  exact ⟨rfl, X3.out⟩

/-- Both Framers have the same bytes, and are silent as long. -/
def Both (W1 : World) (s : Int) (b2 : Nat) (p : Value) (w : World) : Prop :=
  ∃ (b1 : Nat) (q1 q2 : Int) (v1 v2 : Value) (l : List UInt8), p = .pointer (some ⟨b1, 0, none⟩) ∧ Pair W1 s b1 b2 q1 q2 v1 v2 l l w ∧ l.length ≤ 257 ∧ (0 < l.length → ∃ q : Nat, q1 = (q : Int) ∧ q2 = (q : Int) ∧ (q : Int) < s)

set_option maxRecDepth 100000 in
set_option maxHeartbeats 16000000 in
theorem listens_in (s : Nat) (ao : Option Addr) (cap : Nat) (l : List OpV) (w : World) (hv : OpsAt w (.slice ao l.length cap) l) (h1 : 1 ≤ s) (h2 : s ≤ 100) (hl : l.length ≤ 100) : Calls Tryd.prog 4 #[.int .i64 (s : Int), .slice ao l.length cap] w (TrueIs w) := by
  have HV := Lib.hid hv
  have q1 : decide ((s : Int) < 1) = false := decide_eq_false (by omega)
  have q1' : decide (s < 1) = false := decide_eq_false (by omega)
  have q2 : decide ((100 : Int) < (s : Int)) = false := decide_eq_false (by omega)
  have q2' : decide (100 < s) = false := decide_eq_false (by omega)
  have q3 : decide ((100 : Int) < (l.length : Int)) = false := decide_eq_false (by omega)
  clear hv
  go_enter Tryd.func4, Tryd.ntmps4
  go_wp2_with fail
  refine (first_any w).mono ?_
  rintro e w1 ⟨rfl, hb⟩
  have X1 := Lib.hid hb
  clear hb
  go_wp2_with fail
  refine (new_ok s w1 (by omega) (by omega)).mono ?_
  rintro e w2 ⟨rfl, hf, hb⟩
  have H3 : Hid (Both w1 s w2.heap.size (.pointer (some ⟨w1.heap.size, 0, none⟩)) (w2.alloc (.cells #[.int .i64 (s : Int), .slice none 0 0, .int .i64 0] 49))) := Lib.hid (by
    refine ⟨w1.heap.size, 0, 0, .slice none 0 0, .slice none 0 0, [], rfl, ⟨⟨((below_new w2 _).block _ (lt_heap hf)).trans hf, World.ownsRow_nil _ _ _ _⟩, ⟨heap_alloc_new w2 _, World.ownsRow_nil _ _ _ _⟩, hb.trans ((below_new w2 _).mono hb.size), Nat.le_refl _, hb.size, disj_nil _⟩, by simp, fun h => absurd h (by simp)⟩)
  clear hb hf
  go_wp2_with fail
  generalize w2.alloc (.cells #[.int .i64 (s : Int), .slice none 0 0, .int .i64 0] 49) = w3 at *
  generalize w2.heap.size = b2 at *
  go_loopg [5, 8] l.length (fun k s5 s8 wr => ∃ i : Nat, i ≤ l.length ∧ k = l.length - i ∧ s8 = .int .i64 i ∧ Hid (Both w1 s b2 s5 wr))
  case atStart => exact ⟨0, Nat.zero_le _, rfl, rfl, H3⟩
  case round =>
    obtain ⟨i, hi, rfl, rfl, HF⟩ := hrel
    obtain ⟨wo, hwo⟩ : ∃ x, x = wr := ⟨_, rfl⟩
    subst hwo
    obtain ⟨p0, hp0⟩ : ∃ x, x = u5 := ⟨_, rfl⟩
    subst hp0
    by_cases hlt : i < l.length
    · obtain ⟨ob, oo, rfl, hcs⟩ := HV.out.each i hlt
      have HCS := Lib.hid hcs
      clear hcs
      generalize l[i] = o at *
      obtain ⟨ok, on, ot⟩ := o
      dsimp only at HCS
      have hi0 : (0 : Int) ≤ (i : Int) := by omega
      have hil : (i : Int) < (l.length : Int) := by omega
      go_wp2_with fail
      go_loopg [5, 9] 300 (fun k s5 s9 wr => ∃ j : Nat, j ≤ 300 ∧ k = 300 - j ∧ s9 = .int .i64 j ∧ Hid (Both w1 s b2 s5 wr))
      case atStart => exact ⟨0, Nat.zero_le _, rfl, rfl, HF⟩
      case round =>
        obtain ⟨j, hj, rfl, rfl, HJ⟩ := hrel
        obtain ⟨wj, hwj⟩ : ∃ x, x = wr := ⟨_, rfl⟩
        subst hwj
        obtain ⟨b1, z1, z2, v1, v2, m, rfl, hp, hm, hz⟩ := HJ.out
        have HP := Lib.hid hp
        have HZ := Lib.hid hz
        have XJ : Hid (Below w.heap.size w wj) := Lib.hid (X1.out.trans (hp.below.mono X1.out.size))
        obtain ⟨k0, k1, k2⟩ := HCS.out wj XJ.out
        clear hp hz
        by_cases hgo : (j : Int) < ot ∧ j < 300
        · have g1 := hgo.1
          have g2 : (j : Int) < 300 := by omega
          have hend : ∀ (b' : Nat) (z1 z2 : Int) (v1 v2 : Value) (m : List UInt8) (w' : World), Pair w1 s b' b2 z1 z2 v1 v2 m m w' → m.length ≤ 257 → (0 < m.length → ∃ q : Nat, z1 = (q : Int) ∧ z2 = (q : Int) ∧ (q : Int) < (s : Int)) → Hid (Both w1 s b2 (.pointer (some ⟨b', 0, none⟩)) w') := fun b' z1 z2 v1 v2 m w' hp hm hz => Lib.hid ⟨b', z1, z2, v1, v2, m, rfl, hp, hm, hz⟩
          have HEND := Lib.hid hend
          clear hend
          by_cases e0 : ok = 0
          · subst e0
            obtain ⟨x, hx⟩ : ∃ x : UInt8, on % 256 = (x.toNat : Int) := ⟨UInt8.ofNat (on % 256).toNat, by rw [UInt8.toNat_ofNat']; omega⟩
            go_wp2_with fail
            rw [hx]
            refine (pr_byte1 HP.out x hm).mono ?_
            rintro e w4 ⟨rfl, v1', h4⟩
            have H4 := Lib.hid h4
            obtain ⟨k0', k1', k2'⟩ := HCS.out w4 (X1.out.trans (h4.below.mono X1.out.size))
            clear h4 k0 k1 k2
            go_wp2_with fail
            rw [hx]
            refine (pr_byte2 H4.out x hm).mono ?_
            rintro e w5 ⟨rfl, v2', h5⟩
            have H5 := Lib.hid h5
            have HM5 : Hid ((pushB m x).length ≤ 257) := Lib.hid (push_le m x hm)
            have HZ5 : Hid (0 < (pushB m x).length → ∃ q : Nat, (0 : Int) = (q : Int) ∧ (0 : Int) = (q : Int) ∧ (q : Int) < (s : Int)) := Lib.hid (fun _ => ⟨0, rfl, rfl, by omega⟩)
            clear h5 k0' k1' k2'
            generalize pushB m x = m5 at *
            obtain ⟨a2, q2x, hv2⟩ := row_form H5.out.x.own
            subst hv2
            obtain ⟨_, _, t0, _⟩ := xcells H5.out.x
            go_wp2_with fail
            go_region_held3 (fun w' => w'.cell? ⟨b2, 1, none⟩ = some (.slice a2 m5.length q2x))
              (first | exact t0 | go_keep)
              ((go_at_call 23; refine (ppend _ _ _ _ _ _ _ (H5.out.on (Below.refl _ _).drew).f).mono ?_; rintro e w8 ⟨rfl, rfl⟩; simp only []))
            have HE := HEND.out _ _ _ _ _ _ _ (H5.out.on (Below.refl _ _).drew) HM5.out HZ5.out
            clear t0
            go_wp2
            go_roundg (300 - (j + 1))
            case measure => omega
            case rel => exact ⟨j + 1, by omega, rfl, by go_num, HE⟩
          · have n0 : (ok == 0) = false := beq_eq_false_iff_ne.2 e0
            by_cases e1 : ok = 1
            · subst e1
              rcases Nat.eq_zero_or_pos m.length with hm0 | hm0
              · have hmn : m = [] := List.length_eq_zero_iff.1 hm0
                subst hmn
                clear k0 k1 k2
                obtain ⟨k0, _, _⟩ := HCS.out wj XJ.out
                go_wp2_with fail
                refine (ptick_none wj _ b1 s z1 v1 HP.out.f).mono ?_
                rintro e w4 ⟨rfl, rfl⟩
                go_wp2_with fail
                refine (xtick_none wj _ b2 s z2 v2 HP.out.x).mono ?_
                rintro e w4 ⟨rfl, rfl⟩
                go_wp2_with fail
                refine (alike_any _ _ [] [] wj (bytes_nil _ _ _) (bytes_nil _ _ _)).mono ?_
                rintro e w4 ⟨rfl, rfl⟩
                rw [beq_self_eq_true]
                have HM5 := Lib.hid hm
                clear k0
                obtain ⟨a2, q2x, hv2⟩ := row_form HP.out.x.own
                subst hv2
                obtain ⟨_, _, t0, _⟩ := xcells HP.out.x
                go_wp2_with fail
                go_region_held3 (fun w' => w'.cell? ⟨b2, 1, none⟩ = some (.slice a2 ([] : List UInt8).length q2x))
                  (first | exact t0 | go_keep)
                  ((go_at_call 23; refine (ppend _ _ _ _ _ _ _ (HP.out.on (Below.refl _ _).drew).f).mono ?_; rintro e w8 ⟨rfl, rfl⟩; simp only []))
                have HE := HEND.out _ _ _ _ _ _ _ (HP.out.on (Below.refl _ _).drew) HM5.out HZ.out
                clear t0
                go_wp2
                go_roundg (300 - (j + 1))
                case measure => omega
                case rel => exact ⟨j + 1, by omega, rfl, by go_num, HE⟩
              · obtain ⟨q, hq1, hq2, hqs⟩ := HZ.out hm0
                subst hq1
                subst hq2
                by_cases hqe : (q : Int) + 1 < (s : Int)
                · go_wp2_with fail
                  refine (pr_more1 HP.out hm0 (by omega) hqe).mono ?_
                  rintro e w4 ⟨rfl, h4⟩
                  have H4 := Lib.hid h4
                  clear h4 k0 k1 k2
                  go_wp2_with fail
                  refine (pr_more2 H4.out hm0 (by omega) hqe).mono ?_
                  rintro e w5 ⟨rfl, h5⟩
                  have H5 := Lib.hid h5
                  clear h5
                  go_wp2_with fail
                  refine (alike_any _ _ [] [] w5 (bytes_nil _ _ _) (bytes_nil _ _ _)).mono ?_
                  rintro e w6 ⟨rfl, rfl⟩
                  rw [beq_self_eq_true]
                  have HM5 := Lib.hid hm
                  have HZ5 : Hid (0 < m.length → ∃ t : Nat, ((q + 1 : Nat) : Int) = (t : Int) ∧ ((q + 1 : Nat) : Int) = (t : Int) ∧ (t : Int) < (s : Int)) := Lib.hid (fun _ => ⟨q + 1, rfl, rfl, by omega⟩)
                  obtain ⟨a2, q2x, hv2⟩ := row_form H5.out.x.own
                  subst hv2
                  obtain ⟨_, _, t0, _⟩ := xcells H5.out.x
                  go_wp2_with fail
                  go_region_held3 (fun w' => w'.cell? ⟨b2, 1, none⟩ = some (.slice a2 m.length q2x))
                    (first | exact t0 | go_keep)
                    ((go_at_call 23; refine (ppend _ _ _ _ _ _ _ (H5.out.on (Below.refl _ _).drew).f).mono ?_; rintro e w8 ⟨rfl, rfl⟩; simp only []))
                  have HE := HEND.out _ _ _ _ _ _ _ (H5.out.on (Below.refl _ _).drew) HM5.out HZ5.out
                  clear t0
                  go_wp2
                  go_roundg (300 - (j + 1))
                  case measure => omega
                  case rel => exact ⟨j + 1, by omega, rfl, by go_num, HE⟩
                · go_wp2_with fail
                  refine (pr_end1 HP.out hm0 (by omega) (by omega)).mono ?_
                  rintro e w4 ⟨rfl, ⟨q4, h4⟩, r4⟩
                  obtain ⟨a4, c4, rfl⟩ := row_form r4
                  have H4 := Lib.hid h4
                  have R4 := Lib.hid r4
                  clear h4 r4 k0 k1 k2
                  go_wp2_with fail
                  refine (pr_end2 H4.out R4.out hm0 (by omega) (by omega)).mono ?_
                  rintro e w5 ⟨rfl, ⟨q5, h5⟩, r5, s5⟩
                  obtain ⟨a5, c5, rfl⟩ := row_form r5
                  have H5 := Lib.hid h5
                  have R5 := Lib.hid (bytesAt_own r5)
                  have S5 := Lib.hid (bytesAt_own s5)
                  clear h5 r5 s5
                  go_wp2_with fail
                  refine (alike_any _ _ m m w5 S5.out R5.out).mono ?_
                  rintro e w6 ⟨rfl, rfl⟩
                  rw [beq_self_eq_true]
                  have HM5 : Hid (([] : List UInt8).length ≤ 257) := Lib.hid (by simp)
                  have HZ5 : Hid (0 < ([] : List UInt8).length → ∃ t : Nat, q4 = (t : Int) ∧ q5 = (t : Int) ∧ (t : Int) < (s : Int)) := Lib.hid (fun h => absurd h (by simp))
                  obtain ⟨_, _, t0, _⟩ := xcells H5.out.x
                  go_wp2_with fail
                  go_region_held3 (fun w' => w'.cell? ⟨b2, 1, none⟩ = some (.slice none 0 0))
                    (first | exact t0 | go_keep)
                    ((go_at_call 23; refine (ppend _ _ _ _ _ _ _ (H5.out.on (Below.refl _ _).drew).f).mono ?_; rintro e w8 ⟨rfl, rfl⟩; simp only []))
                  have HE := HEND.out _ _ _ _ _ _ _ (H5.out.on (Below.refl _ _).drew) HM5.out HZ5.out
                  clear t0
                  go_wp2
                  go_roundg (300 - (j + 1))
                  case measure => omega
                  case rel => exact ⟨j + 1, by omega, rfl, by go_num, HE⟩
            · have n1 : (ok == 1) = false := beq_eq_false_iff_ne.2 e1
              by_cases e2 : ok = 2
              · subst e2
                go_wp2_with fail
                refine (pr_drop1 HP.out).mono ?_
                rintro e w4 ⟨rfl, q4, h4⟩
                have H4 := Lib.hid h4
                clear h4 k0 k1 k2
                go_wp2_with fail
                refine (pr_drop2 H4.out).mono ?_
                rintro e w5 ⟨rfl, q5, h5⟩
                have H5 := Lib.hid h5
                clear h5
                have HM5 : Hid (([] : List UInt8).length ≤ 257) := Lib.hid (by simp)
                have HZ5 : Hid (0 < ([] : List UInt8).length → ∃ t : Nat, q4 = (t : Int) ∧ q5 = (t : Int) ∧ (t : Int) < (s : Int)) := Lib.hid (fun h => absurd h (by simp))
                obtain ⟨_, _, t0, _⟩ := xcells H5.out.x
                go_wp2_with fail
                go_region_held3 (fun w' => w'.cell? ⟨b2, 1, none⟩ = some (.slice none 0 0))
                  (first | exact t0 | go_keep)
                  ((go_at_call 23; refine (ppend _ _ _ _ _ _ _ (H5.out.on (Below.refl _ _).drew).f).mono ?_; rintro e w8 ⟨rfl, rfl⟩; simp only []))
                have HE := HEND.out _ _ _ _ _ _ _ (H5.out.on (Below.refl _ _).drew) HM5.out HZ5.out
                clear t0
                go_wp2
                go_roundg (300 - (j + 1))
                case measure => omega
                case rel => exact ⟨j + 1, by omega, rfl, by go_num, HE⟩
              · have n2 : (ok == 2) = false := beq_eq_false_iff_ne.2 e2
                go_wp2_with fail
                refine (pr_copy HP.out hm).mono ?_
                rintro e w4 ⟨b', v', rfl, h4⟩
                have H4 := Lib.hid h4
                clear h4 k0 k1 k2
                go_wp2_with fail
                refine (tr_byte H4.out 9 hm).mono ?_
                rintro e w5 ⟨rfl, v0', h5⟩
                have H5' := Lib.hid h5
                clear h5
                go_wp2_with fail
                refine (tr_tick H5'.out (push_pos _ _)).mono ?_
                rintro e w6 ⟨ta, tn, tc, tt, rfl, h6⟩
                have H5 := Lib.hid h6
                clear h6
                have HM5 := Lib.hid hm
                obtain ⟨a2, q2x, hv2⟩ := row_form H5.out.x.own
                subst hv2
                obtain ⟨_, _, t0, _⟩ := xcells H5.out.x
                go_wp2_with fail
                go_region_held3 (fun w' => w'.cell? ⟨b2, 1, none⟩ = some (.slice a2 m.length q2x))
                  (first | exact t0 | go_keep)
                  ((go_at_call 23; refine (ppend _ _ _ _ _ _ _ (H5.out.on (Below.refl _ _).drew).f).mono ?_; rintro e w8 ⟨rfl, rfl⟩; simp only []))
                have HE := HEND.out _ _ _ _ _ _ _ (H5.out.on (Below.refl _ _).drew) HM5.out HZ.out
                clear t0
                go_wp2
                go_roundg (300 - (j + 1))
                case measure => omega
                case rel => exact ⟨j + 1, by omega, rfl, by go_num, HE⟩
        · have hcase : (¬ (j : Int) < ot) ∨ ((j : Int) < ot ∧ ¬ (j : Int) < 300) := by omega
          rcases hcase with hc1 | ⟨hc1, hc2⟩ <;> (
            go_wp2
            go_roundg (l.length - (i + 1))
            case measure => omega
            case rel => exact ⟨i + 1, by omega, rfl, by go_num, HJ⟩)
    · go_wp2_with fail
      refine (first_any wo).mono ?_
      rintro e w4 ⟨rfl, hb⟩
      obtain ⟨_, _, _, _, _, _, _, hp, _⟩ := HF.out
      have X4 := Lib.hid (X1.out.trans ((hp.below.trans (hb.mono hp.below.size)).mono X1.out.size))
      clear hb
      go_wp2
      go_ret
      exact ⟨rfl, X4.out⟩

theorem listens_any (s : Int) (ao : Option Addr) (cap : Nat) (l : List OpV) (w : World) (hg : ErrT w) (hv : OpsAt w (.slice ao l.length cap) l) (hl : l.length ≤ 9223372036854775807) : Calls Tryd.prog 4 #[.int .i64 s, .slice ao l.length cap] w (TrueIs w) := by
  by_cases h1 : s < 1 ∨ 100 < s
  · exact listens_new s ao l.length cap w hg h1
  · by_cases h2 : 100 < l.length
    · exact listens_long s ao l.length cap w (by omega) (by omega) hl h2
    · obtain ⟨t, rfl⟩ : ∃ t : Nat, s = (t : Int) := ⟨s.toNat, by omega⟩
      exact listens_in t ao cap l w hv (by omega) (by omega) (by omega)
end Go.Proofs.YthcehcfeedikkaaDoor
