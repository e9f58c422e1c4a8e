/- yardlaw2.WireOwn answers true for every row of bytes and every number; memory that was there stands. -/
import Derived.Test.YtpdngcjgfngnjaaDoorCuts
namespace Go.Proofs.YtpdngcjgfngnjaaDoor
open Go.RowKit Go.Extern.Stop Go.Stop Go.Extern

/-- A byte stored into a row of one's own. -/
theorem row_set {w : World} {base n cap g i : Nat} {xs : List UInt8} (h : w.ownsRow base 5 1 (.slice (some ⟨g, 0, none⟩) n cap) n (bcells xs)) (y : UInt8) :
    (w.setCell ⟨g, i, none⟩ (.int .u8 (y.toNat : Int))).ownsRow base 5 1 (.slice (some ⟨g, 0, none⟩) n cap) n (bcells (xs.set i y)) := by
  rcases h.2 with ⟨hv, _⟩ | ⟨g', cap', cur, hv, hb, hh, hc1, hc2, hsz, htk⟩
  · simp at hv
  · simp only [Value.slice.injEq, Option.some.injEq, Addr.mk.injEq, and_true, true_and] at hv
    obtain ⟨rfl, rfl⟩ := hv
    refine ⟨by have := h.1; simpa [bcells_length] using this, .inr ⟨g, cap, cur.setIfInBounds i (.int .u8 (y.toNat : Int)), rfl, hb, heap_set _ _ _ _ _ _ _ hh, hc1, hc2, by simpa using hsz, ?_⟩⟩
    rw [Array.toList_setIfInBounds, List.take_set, htk]
    simp [bcells, List.map_set]
theorem row_lit {w : World} {base n : Nat} {v : Value} {xs : List Value} (h : w.ownsRow base 5 1 v n xs) (hn : 0 < n) : ∃ g c, v = .slice (some ⟨g, 0, none⟩) n c ∧ base ≤ g ∧ g < w.heap.size := h.form hn
theorem row_cell {w : World} {base n g c i : Nat} {xs : List UInt8} (h : w.ownsRow base 5 1 (.slice (some ⟨g, 0, none⟩) n c) n (bcells xs)) (hx : xs.length = n) (hi : i < n) : w.cell? ⟨g, i, none⟩ = some (.int .u8 ((xs[i]'(by omega)).toNat : Int)) :=
  (h.cellAt i (by omega)).trans (bcells_get xs i (by omega))
theorem row_frozen {w : World} {base n g c i : Nat} {xs : List Value} (h : w.ownsRow base 5 1 (.slice (some ⟨g, 0, none⟩) n c) n xs) : w.frozen? ⟨g, i, none⟩ = false := by
  rcases h.2 with ⟨hv, _⟩ | ⟨g', cap', cur, hv, hb, hh, _⟩
  · simp at hv
  · simp only [Value.slice.injEq, Option.some.injEq, Addr.mk.injEq, and_true, true_and] at hv
    obtain ⟨rfl, _⟩ := hv
    exact frozen_of_row _ _ _ _ _ hh
theorem BytesAt.at' {w : World} {ao : Option Addr} {n cap : Nat} {l : List UInt8} (h : BytesAt w (.slice ao n cap) l) (i : Nat) (hi : i < l.length) : ∃ b off, ao = some ⟨b, off, none⟩ ∧ w.cell? ⟨b, off + i, none⟩ = some (.int .u8 (l[i].toNat : Int)) := by
  obtain ⟨ao', cap', e, hc⟩ := h
  simp only [Value.slice.injEq] at e
  obtain ⟨rfl, _, _⟩ := e
  exact hc i hi
theorem bytes_prefix {w : World} {ao : Option Addr} {n cap : Nat} {l m : List UInt8} (h : BytesAt w (.slice ao n cap) (l ++ m)) : BytesAt w (.slice ao l.length cap) l := by
  refine ⟨ao, cap, rfl, fun i hi => ?_⟩
  obtain ⟨b, off, e, hc⟩ := h.at' i (by simp; omega)
  refine ⟨b, off, e, ?_⟩
  rw [hc]
  simp [List.getElem_append_left hi]
theorem bytes_nil (W : World) (ao : Option Addr) (c : Nat) : BytesAt W (.slice ao 0 c) [] := ⟨ao, c, rfl, fun i hi => by simp at hi⟩
/-- the next byte. -/
def nextByte (x : UInt8) : UInt8 := UInt8.ofNat ((x.toNat + 1) % 256)
theorem next_cell (x : UInt8) : (.int .u8 (((x.toNat : Int) + 1) % 256) : Value) = .int .u8 ((nextByte x).toNat : Int) := by
  unfold nextByte
  rw [UInt8.toNat_ofNat']
  congr 1
  have := byte_lt x
  omega

set_option maxRecDepth 100000 in
set_option maxHeartbeats 1000000 in
theorem own_out (v : Value) (l : List UInt8) (n : Int) (w : World) (hv : BytesAt w v l) (hg : ErrT w) (hl : l.length ≤ maxLen) (hout : 20000 < l.length) :
    Calls Tryd.prog 9 #[v, .int .i64 n] w fun e w' => e = .returned (.bool true) ∧ Below w.heap.size w w' := by
  have HG := Lib.hid hg
  obtain ⟨ao, cap, rfl, _⟩ := hv
  unfold maxLen at hl
  clear hg
  go_enter Tryd.func9, Tryd.ntmps9
  go_wp2_with fail
  refine (first_any w HG.out).mono ?_
  rintro e w1 ⟨rfl, hb⟩
  have HB1 := Lib.hid hb
  clear hb
  go_wp2_with fail
  refine (new_writer w1).mono ?_
  rintro e w2 ⟨rfl, rfl⟩
  have HB2 := Lib.hid (HB1.out.trans ((below_new w1 (.cells #[.slice none 0 0] 83)).mono HB1.out.size))
  go_wp2_with fail
  refine (first_any _ (HG.out.up HB2.out)).mono ?_
  rintro e w3 ⟨rfl, hb⟩
  have HB3 := Lib.hid (HB2.out.trans (hb.mono HB2.out.size))
  clear hb
  go_wp2
  go_ret
  exact ⟨rfl, HB3.out⟩

/-- What stands while a row of one's own is spoilt: the row, and a Writer beside it. -/
def Spoil (w : World) (Bv : Nat) (v : Value) (n B b : Nat) (u : Value) (m : List UInt8) (F : List UInt8 → Prop) (wr : World) : Prop :=
  ∃ xs, xs.length = n ∧ F xs ∧ wr.ownsRow Bv 5 1 v n (bcells xs) ∧ WrAt wr B b u m ∧ Below w.heap.size w wr
theorem Spoil.step {w wr : World} {Bv g n c B b i : Nat} {u : Value} {m xs : List UInt8} {F : List UInt8 → Prop} (hx : xs.length = n) (hr : wr.ownsRow Bv 5 1 (.slice (some ⟨g, 0, none⟩) n c) n (bcells xs)) (hw : WrAt wr B b u m) (hb : Below w.heap.size w wr)
    (hB : w.heap.size ≤ Bv) (hu : ∀ k, u.ownBlock = some k → k ≠ g) (hi : i < n) (hF : F (xs.set i (nextByte (xs[i]'(by omega))))) (q : Nat) :
    Spoil w Bv (.slice (some ⟨g, 0, none⟩) n c) n B b u m F ((wr.drewN q).setCell ⟨g, i, none⟩ (.int .u8 ((((xs[i]'(by omega)).toNat : Int) + 1) % 256))) := by
  rw [next_cell]
  have hd := below_drew wr q
  have hk : Off (fun k => k = g) wr ((wr.drewN q).setCell ⟨g, i, none⟩ (.int .u8 ((nextByte (xs[i]'(by omega))).toNat : Int))) := (Off.of_below _ hd).trans (Off.set (fun k => k = g) _ ⟨g, i, none⟩ _ rfl)
  refine ⟨_, by simpa using hx, hF, row_set (ownsRow_off hr (Off.of_below (fun _ => False) hd) (fun _ _ f => f)) _, hw.off hk (fun e => row_no hr hw.obj (by decide) (by rw [← e]; rfl)) (fun k hk' e => hu k hk' e), hb.trans (hk.below hb.size (fun k e => by subst e; exact Nat.le_trans hB (hr.lt k rfl).1))⟩

set_option maxRecDepth 100000 in
set_option maxHeartbeats 4000000 in
theorem own_in (v : Value) (l : List UInt8) (n : Int) (w : World) (hv : BytesAt w v l) (hg : ErrT w) (hl : l.length ≤ 20000) :
    Calls Tryd.prog 9 #[v, .int .i64 n] w fun e w' => e = .returned (.bool true) ∧ Below w.heap.size w w' := by
  have HG := Lib.hid hg
  have HV := Lib.hid hv
  have HL := Lib.hid hl
  obtain ⟨ao, cap, rfl, _⟩ := hv
  clear hg
  go_enter Tryd.func9, Tryd.ntmps9
  go_wp2_with fail
  refine (first_any w HG.out).mono ?_
  rintro e w1 ⟨rfl, hb⟩
  have HB1 := Lib.hid hb
  clear hb
  go_wp2_with fail
  refine (new_writer w1).mono ?_
  rintro e w2 ⟨rfl, hw2⟩
  have HB2 : Hid (Below w.heap.size w w2) := Lib.hid (by rw [hw2]; exact HB1.out.trans ((below_new w1 (.cells #[.slice none 0 0] 83)).mono HB1.out.size))
  have HW2 : Hid (WrAt w2 w1.heap.size w1.heap.size noRow []) := Lib.hid (by rw [hw2]; exact wrAt_new w1)
  clear hw2
  go_wp2_with fail
  refine (copy_any _ l w2 (HV.out.on HB2.out) (by have := HL.out; omega)).mono ?_
  rintro e w3 ⟨vi, rfl, hi, hb⟩
  obtain ⟨ai, ci, rfl⟩ := row_form hi
  have HI3 := Lib.hid hi
  have HW3 := Lib.hid (HW2.out.on hb)
  have HB3 := Lib.hid (HB2.out.trans (hb.mono HB2.out.size))
  clear hi hb
  go_wp2_with fail
  refine (wbytes_any _ _ noRow _ [] l w3 HW3.out (bytesAt_own HI3.out) (by have := HL.out; simp; omega)).mono ?_
  rintro e w4 ⟨rfl, u, hw, ho, hu⟩
  rw [List.nil_append] at hw
  have HW4 := Lib.hid hw
  have HU4 : Hid (∀ k, u.ownBlock = some k → w3.heap.size ≤ k) := Lib.hid (fun k hk => by
    rcases hu k hk with h | h
    · cases h
    · exact h)
  have HI4 := Lib.hid (ownsRow_off HI3.out ho (fun k hk s => by
    rcases s with s | s
    · subst s
      exact row_no HI3.out HW3.out.obj (by decide) hk
    · cases s))
  have HB4 := Lib.hid (HB3.out.trans (ho.below HB3.out.size (fun k s => by
    rcases s with s | s
    · subst s
      exact HB1.out.size
    · cases s)))
  have s23 : Hid (w.heap.size ≤ w2.heap.size) := Lib.hid HB2.out.size
  clear hw ho hu
  go_wp2
  go_loopg [7] l.length (fun k s7 wr => ∃ i : Nat, i ≤ l.length ∧ k = l.length - i ∧ s7 = .int .i64 i ∧ Hid (Spoil w w2.heap.size (.slice ai l.length ci) l.length w1.heap.size w1.heap.size u l (fun _ => True) wr))
  case atStart => exact ⟨0, Nat.zero_le _, rfl, rfl, Lib.hid ⟨l, rfl, trivial, HI4.out, HW4.out, HB4.out⟩⟩
  case round =>
    obtain ⟨i, hi, rfl, rfl, hsp⟩ := hrel
    by_cases hlt : i < l.length
    · obtain ⟨xs, hxl, _, hrow, hwr, hbr⟩ := hsp.out
      obtain ⟨g, c, he, hg1, hg2⟩ := row_lit HI3.out (by omega)
      simp only [Value.slice.injEq] at he
      obtain ⟨rfl, _, rfl⟩ := he
      have cc := row_cell hrow hxl hlt
      have ff : wr.frozen? ⟨g, i, none⟩ = false := row_frozen hrow
      have HN := Lib.hid (Spoil.step (w := w) (F := fun _ => True) hxl hrow hwr hbr s23.out (fun k hk e => by have := HU4.out k hk; omega) hlt trivial 0)
      have hbt := byte_lt (xs[i]'(by omega))
      clear hrow hwr hbr hsp
      go_wp2
      go_roundg (l.length - (i + 1))
      case measure => omega
      case rel => exact ⟨i + 1, by omega, rfl, by go_num, HN⟩
    · obtain ⟨xs, _, _, _, hwr, hbr⟩ := hsp.out
      obtain ⟨w5, hw5⟩ : ∃ x, x = wr := ⟨_, rfl⟩
      subst hw5
      have HW5 := Lib.hid hwr
      have HB5 := Lib.hid hbr
      clear hsp hwr hbr
      go_wp2_with fail
      refine (out_any _ _ u l w5 HW5.out (by have := HL.out; omega)).mono ?_
      rintro e w6 ⟨vo, rfl, ho, hb⟩
      obtain ⟨ax, cx, rfl⟩ := row_form ho
      have HO6 := Lib.hid ho
      have HW6 := Lib.hid (HW5.out.on hb)
      have HB6 := Lib.hid (HB5.out.trans (hb.mono HB5.out.size))
      have HUL : Hid (∀ k, u.ownBlock = some k → k < w5.heap.size) := Lib.hid (fun k hk => (HW5.out.own.lt k hk).2)
      clear ho hb
      by_cases hf : UFits 6 n
      · have HF := Lib.hid hf
        clear hf
        go_wp2_with fail
        refine (wu_ok _ _ u l 6 n w6 HW6.out (by have := HL.out; omega) HF.out).mono ?_
        rintro e w7 ⟨rfl, u2, hw, ho, hu⟩
        have HW7 := Lib.hid hw
        have HU7 : Hid (∀ k, u2.ownBlock = some k → k < w5.heap.size ∨ w6.heap.size ≤ k) := Lib.hid (fun k hk => by
          rcases hu k hk with h | h
          · exact .inl (HUL.out k h)
          · exact .inr h)
        have HO7 := Lib.hid (ownsRow_off HO6.out ho (fun k hk s => by
          rcases s with s | s
          · subst s
            exact row_no HO6.out HW6.out.obj (by decide) hk
          · have := HUL.out k s
            have := (HO6.out.lt k hk).1
            omega))
        have HB7 := Lib.hid (HB6.out.trans (ho.below HB6.out.size (fun k s => by
          rcases s with s | s
          · subst s
            exact HB1.out.size
          · exact Nat.le_trans HB1.out.size (HW6.out.own.lt k s).1)))
        clear hw ho hu
        go_wp2
        go_loopg [9] l.length (fun k s9 wr => ∃ i : Nat, i ≤ l.length ∧ k = l.length - i ∧ s9 = .int .i64 i ∧ Hid (Spoil w w5.heap.size (.slice ax l.length cx) l.length w1.heap.size w1.heap.size u2 (l ++ leBytes 6 n) (fun xs => ∀ j (h : j < l.length), i ≤ j → xs[j]? = some l[j]) wr))
        case atStart => exact ⟨0, Nat.zero_le _, rfl, rfl, Lib.hid ⟨l, rfl, fun j h _ => List.getElem?_eq_getElem h, HO7.out, HW7.out, HB7.out⟩⟩
        case round =>
          obtain ⟨i, hi, rfl, rfl, hsp⟩ := hrel
          by_cases hlt : i < l.length
          · obtain ⟨xs, hxl, hF, hrow, hwr, hbr⟩ := hsp.out
            obtain ⟨g, c, he, hg1, hg2⟩ := row_lit HO6.out (by omega)
            simp only [Value.slice.injEq] at he
            obtain ⟨rfl, _, rfl⟩ := he
            have cc := row_cell hrow hxl hlt
            have ff : wr.frozen? ⟨g, i, none⟩ = false := row_frozen hrow
            have hxi : xs[i]'(by omega) = l[i] := by
              have h1 := hF i hlt (Nat.le_refl _)
              rw [List.getElem?_eq_getElem (by omega)] at h1
              exact Option.some.inj h1
            obtain ⟨bb, off, hao, hcl⟩ := (HV.out.on hbr).at' i hlt
            cases hao
            have HN := fun q => Lib.hid (Spoil.step (w := w) (F := fun xs => ∀ j (h : j < l.length), i + 1 ≤ j → xs[j]? = some l[j]) hxl hrow hwr hbr (Nat.le_trans HB5.out.size (Nat.le_refl _)) (fun k hk e => by
              have := HU7.out k hk
              omega) hlt (fun j hj hij => by rw [List.getElem?_set_ne (by omega)]; exact hF j hj (by omega)) q)
            rw [hxi] at cc HN
            have hbt := byte_lt l[i]
            clear hrow hwr hbr hsp hF hxi
            go_wp2_with fail
            go_quiet (fail)
            go_wp2
            go_roundg (l.length - (i + 1))
            case measure => omega
            case rel => exact ⟨i + 1, by omega, rfl, by go_num, HN nq⟩
          · obtain ⟨xs, _, _, _, hwr, hbr⟩ := hsp.out
            obtain ⟨w8, hw8⟩ : ∃ x, x = wr := ⟨_, rfl⟩
            subst hw8
            have HW8 := Lib.hid hwr
            have HB8 := Lib.hid hbr
            clear hsp hwr hbr
            go_wp2_with fail
            refine (out_any _ _ u2 _ w8 HW8.out (by have := HL.out; simp [leBytes_length]; omega)).mono ?_
            rintro e w9 ⟨va, rfl, ho, hb⟩
            obtain ⟨aa, ca, rfl⟩ := row_form ho
            have HP9 := Lib.hid (bytes_prefix (m := leBytes 6 n) (by exact bytesAt_own ho))
            have hcap := row_cap ho
            have hnil : aa = none → (l ++ leBytes 6 n).length = 0 := fun e => by
              subst e
              rcases ho.2 with ⟨_, h0⟩ | ⟨g, cap', cur, hv, _⟩
              · exact h0
              · simp at hv
            have hLL : l.length ≤ (l ++ leBytes 6 n).length := by simp
            have hL2 : (l ++ leBytes 6 n).length ≤ 20006 := by have := HL.out; simp [leBytes_length]; omega
            have HB9 := Lib.hid (HB8.out.trans (hb.mono HB8.out.size))
            clear ho hb
            generalize (l ++ leBytes 6 n).length = L at *
            cases aa with
            | none =>
              have h0 : L = 0 := hnil rfl
              have h00 : l.length = 0 := by omega
              clear hnil
              go_wp2_with fail
              refine (first_any w9 (HG.out.up HB9.out)).mono ?_
              rintro e w10 ⟨rfl, hb⟩
              have HB10 := Lib.hid (HB9.out.trans (hb.mono HB9.out.size))
              clear hb
              go_wp2_with fail
              refine (alike_any _ _ [] [] w10 (bytes_nil _ _ _) (bytes_nil _ _ _)).mono ?_
              rintro e w11 ⟨rfl, rfl⟩
              rw [show (([] : List UInt8) == []) = true by rfl]
              go_wp2
              go_ret
              exact ⟨rfl, HB10.out⟩
            | some ad =>
              clear hnil
              go_wp2_with fail
              refine (first_any w9 (HG.out.up HB9.out)).mono ?_
              rintro e w10 ⟨rfl, hb⟩
              have HB10 := Lib.hid (HB9.out.trans (hb.mono HB9.out.size))
              have HP10 := Lib.hid (HP9.out.on hb)
              clear hb
              go_wp2_with fail
              refine (alike_any _ _ l l w10 HP10.out (HV.out.on HB10.out)).mono ?_
              rintro e w11 ⟨rfl, rfl⟩
              rw [show (l == l) = true by simp]
              go_wp2
              go_ret
              exact ⟨rfl, HB10.out⟩
      · have HF := Lib.hid hf
        clear hf
        go_wp2_with fail
        refine (wu_bad _ _ u l 6 n w6 HW6.out HF.out).mono ?_
        rintro e w7 ⟨y, rfl, hy, hb⟩
        obtain ⟨_, _, rfl, _⟩ := id hy
        have HW7 := Lib.hid (HW6.out.on hb)
        have HU7 : Hid (∀ k, u.ownBlock = some k → k < w5.heap.size ∨ w6.heap.size ≤ k) := Lib.hid (fun k hk => .inl (HUL.out k hk))
        have HO7 := Lib.hid (ownsRow_off HO6.out (Off.of_below (fun _ => False) hb) (fun _ _ f => f))
        have HB7 := Lib.hid (HB6.out.trans (hb.mono HB6.out.size))
        clear hy hb
        go_wp2
        go_loopg [9] l.length (fun k s9 wr => ∃ i : Nat, i ≤ l.length ∧ k = l.length - i ∧ s9 = .int .i64 i ∧ Hid (Spoil w w5.heap.size (.slice ax l.length cx) l.length w1.heap.size w1.heap.size u l (fun xs => ∀ j (h : j < l.length), i ≤ j → xs[j]? = some l[j]) wr))
        case atStart => exact ⟨0, Nat.zero_le _, rfl, rfl, Lib.hid ⟨l, rfl, fun j h _ => List.getElem?_eq_getElem h, HO7.out, HW7.out, HB7.out⟩⟩
        case round =>
          obtain ⟨i, hi, rfl, rfl, hsp⟩ := hrel
          by_cases hlt : i < l.length
          · obtain ⟨xs, hxl, hF, hrow, hwr, hbr⟩ := hsp.out
            obtain ⟨g, c, he, hg1, hg2⟩ := row_lit HO6.out (by omega)
            simp only [Value.slice.injEq] at he
            obtain ⟨rfl, _, rfl⟩ := he
            have cc := row_cell hrow hxl hlt
            have ff : wr.frozen? ⟨g, i, none⟩ = false := row_frozen hrow
            have hxi : xs[i]'(by omega) = l[i] := by
              have h1 := hF i hlt (Nat.le_refl _)
              rw [List.getElem?_eq_getElem (by omega)] at h1
              exact Option.some.inj h1
            obtain ⟨bb, off, hao, hcl⟩ := (HV.out.on hbr).at' i hlt
            cases hao
            have HN := fun q => Lib.hid (Spoil.step (w := w) (F := fun xs => ∀ j (h : j < l.length), i + 1 ≤ j → xs[j]? = some l[j]) hxl hrow hwr hbr (Nat.le_trans HB5.out.size (Nat.le_refl _)) (fun k hk e => by
              have := HU7.out k hk
              omega) hlt (fun j hj hij => by rw [List.getElem?_set_ne (by omega)]; exact hF j hj (by omega)) q)
            rw [hxi] at cc HN
            have hbt := byte_lt l[i]
            clear hrow hwr hbr hsp hF hxi
            go_wp2_with fail
            go_quiet (fail)
            go_wp2
            go_roundg (l.length - (i + 1))
            case measure => omega
            case rel => exact ⟨i + 1, by omega, rfl, by go_num, HN nq⟩
          · obtain ⟨xs, _, _, _, hwr, hbr⟩ := hsp.out
            obtain ⟨w8, hw8⟩ : ∃ x, x = wr := ⟨_, rfl⟩
            subst hw8
            have HW8 := Lib.hid hwr
            have HB8 := Lib.hid hbr
            clear hsp hwr hbr
            go_wp2_with fail
            refine (out_any _ _ u _ w8 HW8.out (by have := HL.out; omega)).mono ?_
            rintro e w9 ⟨va, rfl, ho, hb⟩
            obtain ⟨aa, ca, rfl⟩ := row_form ho
            have HP9 := Lib.hid (bytes_prefix (m := []) (by rw [List.append_nil]; exact bytesAt_own ho))
            have hcap := row_cap ho
            have hnil : aa = none → (l).length = 0 := fun e => by
              subst e
              rcases ho.2 with ⟨_, h0⟩ | ⟨g, cap', cur, hv, _⟩
              · exact h0
              · simp at hv
            have HB9 := Lib.hid (HB8.out.trans (hb.mono HB8.out.size))
            clear ho hb
            cases aa with
            | none =>
              have h0 : l.length = 0 := hnil rfl
              clear hnil
              go_wp2_with fail
              refine (first_any w9 (HG.out.up HB9.out)).mono ?_
              rintro e w10 ⟨rfl, hb⟩
              have HB10 := Lib.hid (HB9.out.trans (hb.mono HB9.out.size))
              clear hb
              go_wp2_with fail
              refine (alike_any _ _ [] [] w10 (bytes_nil _ _ _) (bytes_nil _ _ _)).mono ?_
              rintro e w11 ⟨rfl, rfl⟩
              rw [show (([] : List UInt8) == []) = true by rfl]
              go_wp2
              go_ret
              exact ⟨rfl, HB10.out⟩
            | some ad =>
              clear hnil
              go_wp2_with fail
              refine (first_any w9 (HG.out.up HB9.out)).mono ?_
              rintro e w10 ⟨rfl, hb⟩
              have HB10 := Lib.hid (HB9.out.trans (hb.mono HB9.out.size))
              have HP10 := Lib.hid (HP9.out.on hb)
              clear hb
              go_wp2_with fail
              refine (alike_any _ _ l l w10 HP10.out (HV.out.on HB10.out)).mono ?_
              rintro e w11 ⟨rfl, rfl⟩
              rw [show (l == l) = true by simp]
              go_wp2
              go_ret
              exact ⟨rfl, HB10.out⟩

theorem own_any (v : Value) (l : List UInt8) (n : Int) (w : World) (hv : BytesAt w v l) (hg : ErrT w) (hl : l.length ≤ maxLen) :
    Calls Tryd.prog 9 #[v, .int .i64 n] w fun e w' => e = .returned (.bool true) ∧ Below w.heap.size w w' := by
  by_cases h : 20000 < l.length
  · exact own_out v l n w hv hg hl h
  · exact own_in v l n w hv hg (by omega)
end Go.Proofs.YtpdngcjgfngnjaaDoor
