/- pdu.unpacked and pdu.fromWords: bits and words out of bytes, as a row of the call's own. -/
import Derived.Test.YtngfaailbkadfaaDoorSpec
import Derived.Test.YtngfaailbkadfaaDoorPk
import Derived.Lib.OwnBridge
import Derived.Lib.AppendZeros
namespace Go.Proofs.YtngfaailbkadfaaDoor
open Go.RowKit Go.Extern.Stop Go.Stop Go.Extern
set_option maxRecDepth 100000

theorem info3p : (Tryd.prog.info? 3).map (fun i => (i.zero, i.size, i.bytes)) = some (some (.int .i64 0), 1, 8) := by kernel_rfl
theorem row_slice {w : World} {B : Nat} {e : TypeId} {size : Nat} {v : Value} {n : Nat} {xs : List Value} (h : w.ownsRow B e size v n xs) : ∃ ao cap, v = .slice ao n cap := by
  rcases h.2 with ⟨hv, h0⟩ | ⟨g, cap, cur, hv, _⟩
  · exact ⟨none, 0, by rw [hv, h0]⟩
  · exact ⟨_, cap, hv⟩
/-- append of one number to a row of one's own. -/
theorem app_int (W : World) (B : Nat) (xo : Value) (os : List Int) (x : Int) (hown : W.ownsRow B 3 1 xo os.length (icells os)) (hB : B ≤ W.heap.size) (hl : os.length ≤ 1000000) :
    ∃ v' w', (Builtin.append_ #[22, 22] 22 #[xo, .slice (some ⟨W.heap.size, 0, none⟩) 1 1]).run Tryd.prog (W.alloc (.cells #[.int .i64 x] 3)) = .ok v' w' ∧ w'.ownsRow B 3 1 v' (os ++ [x]).length (icells (os ++ [x])) ∧ Off (fun k => xo.ownBlock = some k) W w' := by
  obtain ⟨i0, hi0, hz0, hz1, hz2⟩ := info_parts info3p
  have hb1 : Below W.heap.size W (W.alloc (.cells #[.int .i64 x] 3)) := below_new _ _
  have hown1 := ownsRow_off hown (Off.of_below (fun _ => False) hb1) (fun _ _ f => f)
  obtain ⟨v', w', h1, h2, h3, _⟩ := run_append_own_at (P := Tryd.prog) (W.alloc (.cells #[.int .i64 x] 3)) B 22 22 3 i0 (.int .i64 0) 1 8 Tryd.underlying22 hi0 hz0 hz1 hz2 rfl (by omega) xo os.length (icells os) hown1 ⟨W.heap.size, 0, none⟩ 1 1 [.int .i64 x] rfl (World.news_of_block (cs := #[.int .i64 x]) (heap_alloc_new W _)) (by intro u hu; simp only [List.mem_singleton] at hu; subst hu; rfl) (by unfold maxLen; omega) (by omega) (Nat.le_trans hB hb1.size)
  exact ⟨v', w', h1, by rw [List.length_append, show icells (os ++ [x]) = icells os ++ [.int .i64 x] by simp [icells]]; exact h2, (Off.of_below _ hb1).trans (Off.of_grown h3)⟩
/-- A new row of numbers. -/
def RowI (w : World) (l : List Int) (e : Ending) (w' : World) : Prop := ∃ v', e = .returned v' ∧ w'.ownsRow w.heap.size 3 1 v' l.length (icells l) ∧ Below w.heap.size w w'
theorem range_map_succ (f : Nat → Int) (i : Nat) : (List.range (i + 1)).map f = (List.range i).map f ++ [f i] := by rw [List.range_succ, List.map_append]; rfl

theorem and_one (y q : Nat) (hy : y < 256) : bits .and .i64 (wrap64 ((y : Int) / 2 ^ q)) 1 = ((y / 2 ^ q % 2 : Nat) : Int) := by
  have h1 : y / 2 ^ q ≤ y := Nat.div_le_self _ _
  have e : (y : Int) / 2 ^ q = ((y / 2 ^ q : Nat) : Int) := by simp
  rw [e]
  generalize y / 2 ^ q = z at h1 ⊢
  have e2 : wrap64 (z : Int) = (z : Int) := by unfold wrap64; omega
  rw [e2]
  show IntKind.i64.wrap ((BitVec.ofInt 64 (z : Int) &&& BitVec.ofInt 64 1).toNat : Int) = _
  rw [BitVec.toNat_and, BitVec.ofInt_natCast, BitVec.toNat_ofNat, show (BitVec.ofInt 64 1).toNat = 1 from rfl, Nat.mod_eq_of_lt (by omega), Nat.and_one_is_mod, IntKind.wrap_i64]
  omega
def unAt (d : List UInt8) (i : Nat) : Int := (((d.getD (i / 8) 0).toNat / 2 ^ (i % 8) % 2 : Nat) : Int)
theorem unF_def (d : List UInt8) (c : Int) : unF d c = (List.range (min c.toNat (8 * d.length))).map (unAt d) := rfl
/-- A row of numbers of the call's own, behind what w had. -/
def RI (w : World) (l : List Int) (v : Value) (wr : World) : Prop := Below w.heap.size w wr ∧ wr.ownsRow w.heap.size 3 1 v l.length (icells l)

set_option maxRecDepth 100000 in
set_option maxHeartbeats 4000000 in
theorem unpacked_any (v : Value) (d : List UInt8) (c : Int) (w : World) (hv : BytesAt w v d) (hl : d.length ≤ 100000) : Calls Tryd.prog 85 #[v, .int .i64 c] w (RowI w (unF d c)) := by
  have HV := Lib.hid hv
  have HL := Lib.hid hl
  obtain ⟨ao, cap, rfl, _⟩ := id hv
  have hl0 : (0 : Int) ≤ (d.length : Int) := by omega
  have hl1 : (d.length : Int) ≤ 100000 := by omega
  clear hl hv
  obtain ⟨n, hn⟩ : ∃ n, n = min c.toNat (8 * d.length) := ⟨_, rfl⟩
  have HI : Hid (RI w ((List.range 0).map (unAt d)) (.slice none 0 0) w) := Lib.hid ⟨Below.refl _ _, World.ownsRow_nil _ _ _ _⟩
  rcases Int.lt_or_le (8 * (d.length : Int)) c with hc | hc
  · have HN : Hid (n = min c.toNat (8 * d.length) ∧ n = 8 * d.length) := Lib.hid ⟨hn, by omega⟩
    clear hn
    go_enter Tryd.func85, Tryd.ntmps85
    go_wp2
    go_loopg [5, 12] n (fun k s5 s12 wr => ∃ i : Nat, i ≤ n ∧ k = n - i ∧ s12 = .int .i64 i ∧ Hid (RI w ((List.range i).map (unAt d)) s5 wr))
    case atStart => exact ⟨0, Nat.zero_le _, rfl, rfl, HI⟩
    case round =>
      obtain ⟨i, hi, rfl, rfl, hinv⟩ := hrel
      obtain ⟨xs, hxs⟩ : ∃ xs, xs = (List.range i).map (unAt d) := ⟨_, rfl⟩
      have HXS := Lib.hid hxs
      have HXL : Hid (xs.length = i) := Lib.hid (by rw [hxs]; simp)
      rw [← hxs] at hinv
      obtain ⟨ax, cx, rfl⟩ := row_slice hinv.out.2
      clear hxs
      by_cases hlt : i < n
      · have hi0 : (0 : Int) ≤ (i : Int) := by omega
        have hin : (i : Int) < 8 * (d.length : Int) := by have := HN.out; omega
        have hi8 : (i : Int) < 8 * (d.length : Int) := by have := HN.out; omega
        obtain ⟨j, hj⟩ : ∃ j, j = i / 8 := ⟨_, rfl⟩
        obtain ⟨q, hq⟩ : ∃ q, q = i % 8 := ⟨_, rfl⟩
        have hjd : j < d.length := by omega
        obtain ⟨ao', cap', he, hcc⟩ := HV.out.on hinv.out.1
        obtain ⟨b, off, hb, hcell⟩ := hcc j hjd
        simp only [Value.slice.injEq] at he
        obtain ⟨rfl, _, rfl⟩ := he
        subst hb
        clear hcc
        have hy := byte_lt d[j]
        have HX : Hid (unAt d i = ((d[j].toNat / 2 ^ q % 2 : Nat) : Int)) := Lib.hid (by unfold unAt; rw [← hj, ← hq]; simp [List.getD, hjd])
        generalize d[j].toNat = y at *
        have ej1 : (i : Int) / 8 = (j : Int) := by omega
        have eq1 : (i : Int) % 8 = (q : Int) := by omega
        have hjl : (j : Int) < (d.length : Int) := by omega
        have hj0 : (0 : Int) ≤ (j : Int) := by omega
        have hq0 : (0 : Int) ≤ (q : Int) := by omega
        have hq8 : (q : Int) < 8 := by omega
        clear hj hq
        have HXe := Lib.hid (HX.out.trans (and_one y q hy).symm)
        obtain ⟨v6, w6, happ, ho6, hk6⟩ := app_int wr w.heap.size _ xs (bits .and .i64 (wrap64 ((y : Int) / 2 ^ q)) 1) hinv.out.2 hinv.out.1.size (by have := HXL.out; have := HL.out; have := HN.out; omega)
        have HN6 : Hid (RI w ((List.range (i + 1)).map (unAt d)) v6 w6) := Lib.hid ⟨hinv.out.1.trans (hk6.below hinv.out.1.size (fun k hk => (hinv.out.2.lt k hk).1)), by rw [range_map_succ, ← HXS.out, HXe.out]; exact ho6⟩
        obtain ⟨av6, cv6, rfl⟩ := row_slice ho6
        clear ho6 hk6
        generalize (xs ++ [bits .and .i64 (wrap64 ((y : Int) / 2 ^ q)) 1]).length = nn at *
        go_wp2_with (at_builtin; refine Lib.wpList_append_run _ rfl _ _ _ _ rfl _ _ rfl rfl _ _ happ ?_)
        go_roundg (n - (i + 1))
        case measure => omega
        case rel => exact ⟨i + 1, by omega, rfl, (by first | go_num | exact next_int i (by have := HL.out; have := HN.out; omega)), HN6⟩
      · have hin : 8 * (d.length : Int) ≤ (i : Int) := by have := HN.out; omega
        have HE : Hid (RI w (unF d c) (.slice ax xs.length cx) wr) := Lib.hid (by
          rw [unF_def, ← HN.out.1, ← show i = n by omega, ← HXS.out]
          exact hinv.out)
        go_wp2
        go_ret
        exact ⟨_, rfl, HE.out.2, HE.out.1⟩
  · have HN : Hid (n = min c.toNat (8 * d.length) ∧ n = c.toNat) := Lib.hid ⟨hn, by omega⟩
    clear hn
    go_enter Tryd.func85, Tryd.ntmps85
    go_wp2
    go_loopg [5, 12] n (fun k s5 s12 wr => ∃ i : Nat, i ≤ n ∧ k = n - i ∧ s12 = .int .i64 i ∧ Hid (RI w ((List.range i).map (unAt d)) s5 wr))
    case atStart => exact ⟨0, Nat.zero_le _, rfl, rfl, HI⟩
    case round =>
      obtain ⟨i, hi, rfl, rfl, hinv⟩ := hrel
      obtain ⟨xs, hxs⟩ : ∃ xs, xs = (List.range i).map (unAt d) := ⟨_, rfl⟩
      have HXS := Lib.hid hxs
      have HXL : Hid (xs.length = i) := Lib.hid (by rw [hxs]; simp)
      rw [← hxs] at hinv
      obtain ⟨ax, cx, rfl⟩ := row_slice hinv.out.2
      clear hxs
      by_cases hlt : i < n
      · have hi0 : (0 : Int) ≤ (i : Int) := by omega
        have hin : (i : Int) < c := by have := HN.out; omega
        have hi8 : (i : Int) < 8 * (d.length : Int) := by have := HN.out; omega
        obtain ⟨j, hj⟩ : ∃ j, j = i / 8 := ⟨_, rfl⟩
        obtain ⟨q, hq⟩ : ∃ q, q = i % 8 := ⟨_, rfl⟩
        have hjd : j < d.length := by omega
        obtain ⟨ao', cap', he, hcc⟩ := HV.out.on hinv.out.1
        obtain ⟨b, off, hb, hcell⟩ := hcc j hjd
        simp only [Value.slice.injEq] at he
        obtain ⟨rfl, _, rfl⟩ := he
        subst hb
        clear hcc
        have hy := byte_lt d[j]
        have HX : Hid (unAt d i = ((d[j].toNat / 2 ^ q % 2 : Nat) : Int)) := Lib.hid (by unfold unAt; rw [← hj, ← hq]; simp [List.getD, hjd])
        generalize d[j].toNat = y at *
        have ej1 : (i : Int) / 8 = (j : Int) := by omega
        have eq1 : (i : Int) % 8 = (q : Int) := by omega
        have hjl : (j : Int) < (d.length : Int) := by omega
        have hj0 : (0 : Int) ≤ (j : Int) := by omega
        have hq0 : (0 : Int) ≤ (q : Int) := by omega
        have hq8 : (q : Int) < 8 := by omega
        clear hj hq
        have HXe := Lib.hid (HX.out.trans (and_one y q hy).symm)
        obtain ⟨v6, w6, happ, ho6, hk6⟩ := app_int wr w.heap.size _ xs (bits .and .i64 (wrap64 ((y : Int) / 2 ^ q)) 1) hinv.out.2 hinv.out.1.size (by have := HXL.out; have := HL.out; have := HN.out; omega)
        have HN6 : Hid (RI w ((List.range (i + 1)).map (unAt d)) v6 w6) := Lib.hid ⟨hinv.out.1.trans (hk6.below hinv.out.1.size (fun k hk => (hinv.out.2.lt k hk).1)), by rw [range_map_succ, ← HXS.out, HXe.out]; exact ho6⟩
        obtain ⟨av6, cv6, rfl⟩ := row_slice ho6
        clear ho6 hk6
        generalize (xs ++ [bits .and .i64 (wrap64 ((y : Int) / 2 ^ q)) 1]).length = nn at *
        go_wp2_with (at_builtin; refine Lib.wpList_append_run _ rfl _ _ _ _ rfl _ _ rfl rfl _ _ happ ?_)
        go_roundg (n - (i + 1))
        case measure => omega
        case rel => exact ⟨i + 1, by omega, rfl, (by first | go_num | exact next_int i (by have := HL.out; have := HN.out; omega)), HN6⟩
      · have hin : c ≤ (i : Int) := by have := HN.out; omega
        have HE : Hid (RI w (unF d c) (.slice ax xs.length cx) wr) := Lib.hid (by
          rw [unF_def, ← HN.out.1, ← show i = n by omega, ← HXS.out]
          exact hinv.out)
        go_wp2
        go_ret
        exact ⟨_, rfl, HE.out.2, HE.out.1⟩
end Go.Proofs.YtngfaailbkadfaaDoor
