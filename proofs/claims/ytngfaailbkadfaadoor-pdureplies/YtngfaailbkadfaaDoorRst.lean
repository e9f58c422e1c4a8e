/- A Reader that is read out of, one field behind the other: what comes out, short or not; pdu.fromWords. -/
import Derived.Test.YtngfaailbkadfaaDoorUn
namespace Go.Proofs.YtngfaailbkadfaaDoor
open Go.RowKit Go.Extern.Stop Go.Stop Go.Extern
set_option maxRecDepth 100000

/-- A Reader made behind W0, that stands at p; all that W0 had stands. -/
def Rs (W0 : World) (r : Nat) (l : List UInt8) (p : Nat) (w : World) : Prop := ∃ v, RdAt w W0.heap.size r v l p ∧ Below W0.heap.size W0 w
theorem Rs.on {W0 w w' : World} {r : Nat} {l : List UInt8} {p : Nat} (h : Rs W0 r l p w) (hb : Below w.heap.size w w') : Rs W0 r l p w' := by
  obtain ⟨v, h1, h2⟩ := h
  exact ⟨v, h1.on hb, h2.trans (hb.mono h2.size)⟩
theorem Rs.below {W0 w : World} {r : Nat} {l : List UInt8} {p : Nat} (h : Rs W0 r l p w) : Below W0.heap.size W0 w := by
  obtain ⟨v, h1, h2⟩ := h
  exact h2
theorem Rs.base {W0 w : World} {r : Nat} {l : List UInt8} {p : Nat} (h : Rs W0 r l p w) : W0.heap.size ≤ r := by
  obtain ⟨v, h1, h2⟩ := h
  exact h1.base
theorem Rs.moved {W0 w w' : World} {r : Nat} {l : List UInt8} {p q : Nat} {v : Value} (h : Rs W0 r l p w) (h1 : RdAt w' W0.heap.size r v l q) (ho : Off (fun k => k = r) w w') : Rs W0 r l q w' :=
  ⟨v, h1, h.below.trans (ho.below h.below.size (fun k hk => by rw [hk]; exact h.base))⟩
theorem row_type {w : World} {base : Nat} {e : TypeId} {size : Nat} {v : Value} {n : Nat} {xs : List Value} (h : w.ownsRow base e size v n xs) {k : Nat} (hk : v.ownBlock = some k) : ∃ cur, w.heap[k]? = some (.cells cur e (0, 0)) := by
  rcases h.2 with ⟨hv, _⟩ | ⟨g, cap, cur, hv, _, hh, _⟩
  · rw [hv] at hk; simp [Value.ownBlock] at hk
  · rw [hv] at hk
    have : g = k := by simpa [Value.ownBlock] using hk
    exact ⟨cur, by rw [← this]; exact hh⟩
/-- Rows of numbers that grow leave a Reader alone; a Reader that moves leaves rows of numbers alone. -/
theorem Rs.grow {W0 w w' : World} {r : Nat} {l : List UInt8} {p B n : Nat} {xo : Value} {xs : List Value} (h : Rs W0 r l p w) (hx : w.ownsRow B 3 1 xo n xs) (hB : W0.heap.size ≤ B) (ho : Off (fun k => xo.ownBlock = some k) w w') : Rs W0 r l p w' := by
  obtain ⟨v, h1, h2⟩ := h
  refine ⟨v, h1.off ho (fun e => ?_) (fun k e s => ?_), h2.trans (ho.below h2.size (fun k hk => Nat.le_trans hB (hx.lt k hk).1))⟩
  · obtain ⟨cur, hc⟩ := row_type hx e
    rw [h1.obj] at hc
    simp at hc
  · obtain ⟨c1, hc1⟩ := row_type hx s
    obtain ⟨c2, hc2⟩ := row_type h1.own e
    rw [hc1] at hc2
    simp at hc2
theorem row_moved {W0 w w' : World} {r : Nat} {l : List UInt8} {p B n : Nat} {xo : Value} {xs : List Value} (h : Rs W0 r l p w) (hx : w.ownsRow B 3 1 xo n xs) (ho : Off (fun k => k = r) w w') : w'.ownsRow B 3 1 xo n xs := by
  obtain ⟨v, h1, h2⟩ := h
  refine ownsRow_off hx ho (fun k e s => ?_)
  obtain ⟨cur, hc⟩ := row_type hx e
  rw [s, h1.obj] at hc
  simp at hc

/-- What a number that is read leaves. -/
def RsB (W0 w : World) (r : Nat) (l : List UInt8) (p n : Nat) (e : Ending) (w' : World) : Prop :=
  (∃ x, e = .returned (.tuple #[.int .i64 (rdN l p n).1, x])) ∧ Rs W0 r l (rdN l p n).2 w' ∧ Off (fun k => k = r) w w'
theorem rs_b (W0 w : World) (r : Nat) (l : List UInt8) (p n : Nat) (h : Rs W0 r l p w) (h1 : 1 ≤ n) (h2 : n ≤ 6) : Calls Tryd.prog 56 #[.pointer (some ⟨r, 0, none⟩), .int .i64 (n : Int)] w (RsB W0 w r l p n) := by
  obtain ⟨v, hr, hb⟩ := id h
  unfold RsB rdN
  by_cases hn : p + n ≤ l.length
  · rw [if_pos hn]
    refine (b_ok _ r v l p n w hr h1 h2 hn).mono ?_
    rintro e w' ⟨rfl, hr', ho⟩
    exact ⟨⟨_, rfl⟩, h.moved hr' ho, ho⟩
  · rw [if_neg hn]
    have hle := hr.le
    refine (b_bad _ r v l p n 2 w hr (.inr ⟨by omega, by omega, rfl⟩)).mono ?_
    rintro e w' ⟨x, rfl, _, hb'⟩
    exact ⟨⟨_, rfl⟩, h.on hb', Off.of_below _ hb'⟩
/-- What bytes that are read leave. -/
def RsY (W0 w : World) (r : Nat) (l : List UInt8) (p : Nat) (n : Int) (e : Ending) (w' : World) : Prop :=
  (∃ u x, e = .returned (.tuple #[u, x]) ∧ BytesAt w' u (rdB l p n).1) ∧ Rs W0 r l (rdB l p n).2 w' ∧ Off (fun k => k = r) w w'
theorem rs_bytes (W0 w : World) (r : Nat) (l : List UInt8) (p : Nat) (n : Int) (h : Rs W0 r l p w) (hn0 : 0 ≤ n) : Calls Tryd.prog 75 #[.pointer (some ⟨r, 0, none⟩), .int .i64 n] w (RsY W0 w r l p n) := by
  obtain ⟨v, hr, hb⟩ := id h
  obtain ⟨m, rfl⟩ := Int.eq_ofNat_of_zero_le hn0
  unfold RsY rdB
  by_cases hn : p + m ≤ l.length
  · rw [if_pos (by omega)]
    refine (bytes_ok _ r v l p m w hr hn).mono ?_
    rintro e w' ⟨⟨x, rfl, hx⟩, hr', ho⟩
    refine ⟨⟨_, _, rfl, ?_⟩, h.moved hr' ho, ho⟩
    have hx' : w'.ownsRow w.heap.size 5 1 x ((l.drop p).take m).length (bcells ((l.drop p).take m)) := by rw [cut_length l p m hn]; exact hx
    exact bytesAt_own hx'
  · rw [if_neg (by omega)]
    have hle := hr.le
    refine (bytes_bad _ r v l p m 2 w hr (.inr ⟨by omega, by omega, rfl⟩)).mono ?_
    rintro e w' ⟨x, rfl, _, hb'⟩
    exact ⟨⟨_, _, rfl, bytes_nil _ _ _⟩, h.on hb', Off.of_below _ hb'⟩
theorem rs_new (v0 : Value) (l : List UInt8) (w : World) (hv : BytesAt w v0 l) (hl : l.length ≤ 1000000) : Calls Tryd.prog 55 #[v0] w fun e w' => ∃ r, e = .returned (.pointer (some ⟨r, 0, none⟩)) ∧ Rs w r l 0 w' := by
  refine (new_reader v0 l w hv (by omega)).mono ?_
  rintro e w' ⟨r, v, rfl, hr, hb⟩
  exact ⟨r, rfl, v, hr, hb⟩

def fwAt (d : List UInt8) (i : Nat) : Int := ((leNum ((d.drop (2 * i)).take 2).reverse : Nat) : Int)
theorem fwF_def (d : List UInt8) (c : Int) : fwF d c = (List.range (min c.toNat (d.length / 2))).map (fwAt d) := rfl
theorem rdN_fw (d : List UInt8) (i : Nat) (h : 2 * i + 2 ≤ d.length) : rdN d (2 * i) 2 = (fwAt d i, 2 * (i + 1)) := by
  unfold rdN fwAt
  rw [if_pos h]
  rfl

set_option maxRecDepth 100000 in
set_option maxHeartbeats 4000000 in
theorem fromw_any (v : Value) (d : List UInt8) (c : Int) (w : World) (hv : BytesAt w v d) (hl : d.length ≤ 100000) : Calls Tryd.prog 86 #[v, .int .i64 c] w (RowI w (fwF d c)) := by
  have HV := Lib.hid hv
  have HL := Lib.hid hl
  obtain ⟨ao, cap, rfl, _⟩ := id hv
  obtain ⟨L, hL⟩ : ∃ L : Nat, L = d.length / 2 := ⟨_, rfl⟩
  have eL : (d.length : Int) / 2 = (L : Int) := by omega
  have hl0 : (0 : Int) ≤ (d.length : Int) := by omega
  have hl1 : (d.length : Int) ≤ 100000 := by omega
  clear hl hv
  obtain ⟨n, hn⟩ : ∃ n, n = min c.toNat (d.length / 2) := ⟨_, rfl⟩
  rcases Int.lt_or_le (L : Int) c with hc | hc
  · have HN : Hid (n = min c.toNat (d.length / 2) ∧ n = L ∧ n = d.length / 2) := Lib.hid ⟨hn, by omega⟩
    clear hn hL
    go_enter Tryd.func86, Tryd.ntmps86
    go_wp2_with fail
    refine (rs_new _ d w HV.out (by have := HL.out; omega)).mono ?_
    rintro e w1 ⟨r, rfl, hr⟩
    have HR := Lib.hid hr
    have HI : Hid (RI w ((List.range 0).map (fwAt d)) (.slice none 0 0) w1) := Lib.hid ⟨hr.below, World.ownsRow_nil _ _ _ _⟩
    clear hr
    go_wp2_with fail
    clear eL
    go_loopg [6, 16] n (fun k s6 s16 wr => ∃ i : Nat, i ≤ n ∧ k = n - i ∧ s16 = .int .i64 i ∧ Hid (RI w ((List.range i).map (fwAt d)) s6 wr ∧ Rs w r d (2 * i) wr))
    case atStart => exact ⟨0, Nat.zero_le _, rfl, rfl, Lib.hid ⟨HI.out, HR.out⟩⟩
    case round =>
      obtain ⟨i, hi, rfl, rfl, hinv⟩ := hrel
      obtain ⟨xs, hxs⟩ : ∃ xs, xs = (List.range i).map (fwAt d) := ⟨_, rfl⟩
      have HXS := Lib.hid hxs
      have HXL : Hid (xs.length = i) := Lib.hid (by rw [hxs]; simp)
      rw [← hxs] at hinv
      obtain ⟨ax, cx, rfl⟩ := row_slice hinv.out.1.2
      clear hxs
      by_cases hlt : i < n
      · have hi0 : (0 : Int) ≤ (i : Int) := by omega
        have hin : (i : Int) < (L : Int) := by have := HN.out; omega
        have HX := Lib.hid (rdN_fw d i (by have := HN.out; omega))
        go_wp2_with fail
        refine (rs_b w wr r d (2 * i) 2 hinv.out.2 (by omega) (by omega)).mono ?_
        rintro e w2 ⟨⟨x, rfl⟩, h2, ho⟩
        rw [HX.out] at h2 ⊢
        dsimp only at h2 ⊢
        have hrow := row_moved hinv.out.2 hinv.out.1.2 ho
        have HR2 := Lib.hid h2
        clear h2 ho
        obtain ⟨v6, w6, happ, ho6, hk6⟩ := app_int w2 w.heap.size _ xs (fwAt d i) hrow HR2.out.below.size (by have := HXL.out; have := HL.out; have := HN.out; omega)
        have HN6 : Hid (RI w ((List.range (i + 1)).map (fwAt d)) v6 w6 ∧ Rs w r d (2 * (i + 1)) w6) := Lib.hid ⟨⟨HR2.out.below.trans (hk6.below HR2.out.below.size (fun k hk => (hrow.lt k hk).1)), by rw [range_map_succ, ← HXS.out]; exact ho6⟩, HR2.out.grow hrow (Nat.le_refl _) hk6⟩
        obtain ⟨av6, cv6, rfl⟩ := row_slice ho6
        clear ho6 hk6 hrow
        generalize (xs ++ [fwAt d i]).length = nn at *
        generalize fwAt d i = z at *
        go_wp2_with (at_builtin; refine Lib.wpList_append_run _ rfl _ _ _ _ rfl _ _ rfl rfl _ _ happ ?_)
        go_roundg (n - (i + 1))
        case measure => omega
        case rel => exact ⟨i + 1, by omega, rfl, (by first | go_num | exact next_int i (by have := HL.out; have := HN.out; omega)), HN6⟩
      · have hin : (L : Int) ≤ (i : Int) := by have := HN.out; omega
        have HE : Hid (RI w (fwF d c) (.slice ax xs.length cx) wr) := Lib.hid (by
          rw [fwF_def, ← HN.out.1, ← show i = n by omega, ← HXS.out]
          exact hinv.out.1)
        go_wp2
        go_ret
        exact ⟨_, rfl, HE.out.2, HE.out.1⟩
  · have HN : Hid (n = min c.toNat (d.length / 2) ∧ n = c.toNat ∧ n ≤ d.length / 2) := Lib.hid ⟨hn, by omega⟩
    clear hn hL
    go_enter Tryd.func86, Tryd.ntmps86
    go_wp2_with fail
    refine (rs_new _ d w HV.out (by have := HL.out; omega)).mono ?_
    rintro e w1 ⟨r, rfl, hr⟩
    have HR := Lib.hid hr
    have HI : Hid (RI w ((List.range 0).map (fwAt d)) (.slice none 0 0) w1) := Lib.hid ⟨hr.below, World.ownsRow_nil _ _ _ _⟩
    clear hr
    go_wp2_with fail
    clear eL
    go_loopg [6, 16] n (fun k s6 s16 wr => ∃ i : Nat, i ≤ n ∧ k = n - i ∧ s16 = .int .i64 i ∧ Hid (RI w ((List.range i).map (fwAt d)) s6 wr ∧ Rs w r d (2 * i) wr))
    case atStart => exact ⟨0, Nat.zero_le _, rfl, rfl, Lib.hid ⟨HI.out, HR.out⟩⟩
    case round =>
      obtain ⟨i, hi, rfl, rfl, hinv⟩ := hrel
      obtain ⟨xs, hxs⟩ : ∃ xs, xs = (List.range i).map (fwAt d) := ⟨_, rfl⟩
      have HXS := Lib.hid hxs
      have HXL : Hid (xs.length = i) := Lib.hid (by rw [hxs]; simp)
      rw [← hxs] at hinv
      obtain ⟨ax, cx, rfl⟩ := row_slice hinv.out.1.2
      clear hxs
      by_cases hlt : i < n
      · have hi0 : (0 : Int) ≤ (i : Int) := by omega
        have hin : (i : Int) < c := by have := HN.out; omega
        have HX := Lib.hid (rdN_fw d i (by have := HN.out; omega))
        go_wp2_with fail
        refine (rs_b w wr r d (2 * i) 2 hinv.out.2 (by omega) (by omega)).mono ?_
        rintro e w2 ⟨⟨x, rfl⟩, h2, ho⟩
        rw [HX.out] at h2 ⊢
        dsimp only at h2 ⊢
        have hrow := row_moved hinv.out.2 hinv.out.1.2 ho
        have HR2 := Lib.hid h2
        clear h2 ho
        obtain ⟨v6, w6, happ, ho6, hk6⟩ := app_int w2 w.heap.size _ xs (fwAt d i) hrow HR2.out.below.size (by have := HXL.out; have := HL.out; have := HN.out; omega)
        have HN6 : Hid (RI w ((List.range (i + 1)).map (fwAt d)) v6 w6 ∧ Rs w r d (2 * (i + 1)) w6) := Lib.hid ⟨⟨HR2.out.below.trans (hk6.below HR2.out.below.size (fun k hk => (hrow.lt k hk).1)), by rw [range_map_succ, ← HXS.out]; exact ho6⟩, HR2.out.grow hrow (Nat.le_refl _) hk6⟩
        obtain ⟨av6, cv6, rfl⟩ := row_slice ho6
        clear ho6 hk6 hrow
        generalize (xs ++ [fwAt d i]).length = nn at *
        generalize fwAt d i = z at *
        go_wp2_with (at_builtin; refine Lib.wpList_append_run _ rfl _ _ _ _ rfl _ _ rfl rfl _ _ happ ?_)
        go_roundg (n - (i + 1))
        case measure => omega
        case rel => exact ⟨i + 1, by omega, rfl, (by first | go_num | exact next_int i (by have := HL.out; have := HN.out; omega)), HN6⟩
      · have hin : c ≤ (i : Int) := by have := HN.out; omega
        have HE : Hid (RI w (fwF d c) (.slice ax xs.length cx) wr) := Lib.hid (by
          rw [fwF_def, ← HN.out.1, ← show i = n by omega, ← HXS.out]
          exact hinv.out.1)
        go_wp2
        go_ret
        exact ⟨_, rfl, HE.out.2, HE.out.1⟩
end Go.Proofs.YtngfaailbkadfaaDoor
