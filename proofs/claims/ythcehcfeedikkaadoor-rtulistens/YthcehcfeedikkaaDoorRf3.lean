/- yardref7.Open: the document's answer; memory that was there stands. -/
import Derived.Test.YthcehcfeedikkaaDoorRf2
import Derived.Deep.RegionHeld3
namespace Go.Proofs.YthcehcfeedikkaaDoor
open Go.RowKit Go.Extern.Stop Go.Stop Go.Extern

def ROpenOk (w : World) (l : List UInt8) (e : Ending) (w' : World) : Prop := ∃ v, e = .returned (.tuple #[.int .i64 ((l.headD 0).toNat : Int), v, e0]) ∧ w'.ownsRow w.heap.size 5 1 v (l.length - 3) (bcells ((l.drop 1).take (l.length - 3))) ∧ Below w.heap.size w w'
def ROpenNo (w : World) (x c : Int) (e : Ending) (w' : World) : Prop := ∃ g : Nat, e = .returned (.tuple #[.int .i64 0, .slice none 0 0, .agg #[.int .i64 c, .slice (some ⟨g, 0, none⟩) 1 1]]) ∧ StepsOwn w' (.slice (some ⟨g, 0, none⟩) 1 1) [(sRtu, x)] ∧ Below w.heap.size w w'

theorem fin2_cell {w : World} {k b o : Nat} {c : Int} {V u : Value} (h : w.cell? ⟨b, o, none⟩ = some u) (hb : b ≠ k) : ((w.setCell ⟨k, 0, none⟩ (.int .i64 c)).setCell ⟨k, 1, none⟩ V).cell? ⟨b, o, none⟩ = some u := by
  have := (fin2_off w k c V).block b (lt_cell h) hb
  unfold fin2 at this
  simp only [World.cell?, this]
  exact h
theorem ropen_fin (w wa : World) (x c : Int) (g : Nat) (ha : AtBox w wa w.heap.size x c g) : BoxE (fin2 wa w.heap.size c (.slice (some ⟨g, 0, none⟩) 1 1)) w.heap.size c (.slice (some ⟨g, 0, none⟩) 1 1) ∧ ROpenNo w x c (.returned (.tuple #[.int .i64 0, .slice none 0 0, .agg #[.int .i64 c, .slice (some ⟨g, 0, none⟩) 1 1]])) (fin2 wa w.heap.size c (.slice (some ⟨g, 0, none⟩) 1 1)) :=
  ⟨fin2_box ha.box _ _, g, rfl, ha.steps.off (fin2_off _ _ _ _) ha.ne, fin2_below ha.below _ (Nat.le_refl _) _ _⟩

set_option maxRecDepth 100000 in
set_option maxHeartbeats 2000000 in
theorem ropen_short (ao : Option Addr) (n cap : Nat) (w : World) (h : n < 4) : Calls Tryd.prog 11 #[.slice ao n cap] w (ROpenNo w n 2) := by
  have h' : (n : Int) < 4 := by omega
  obtain ⟨wx, hwx⟩ : ∃ wx, wx = w.alloc (.cells #[.int .i64 0, .slice none 0 0] 32) := ⟨_, rfl⟩
  have X0 : Hid (Below w.heap.size w wx) := Lib.hid (by rw [hwx]; exact below_new w _)
  have B0 : Hid (BoxE wx w.heap.size 0 (.slice none 0 0)) := Lib.hid (by rw [hwx]; exact heap_alloc_new w _)
  go_enter Tryd.func11, Tryd.ntmps11
  go_wp2_with fail
  rw [← hwx]
  clear hwx
  refine (at_box n 2 w wx _ B0.out X0.out).mono ?_
  rintro e wa ⟨g, rfl, HA⟩
  obtain ⟨c0, c1, f0, f1⟩ := HA.out.box.cells
  have HF := Lib.hid (ropen_fin w wa n 2 g HA.out)
  unfold fin2 at HF
  go_wp2
  generalize (World.setCell (World.setCell wa _ _) _ _) = W at HF ⊢
  obtain ⟨d0, d1, _, _⟩ := HF.out.1.cells
  refine bodyPost_ret (v := .tuple #[.int .i64 0, .slice none 0 0, .agg #[.int .i64 2, .slice (some ⟨g, 0, none⟩) 1 1]]) ?_ rfl HF.out.2
  simp [results, Tryd.results11, go_sem, d0, d1]
set_option maxRecDepth 100000 in
set_option maxHeartbeats 2000000 in
theorem ropen_long (ao : Option Addr) (n cap : Nat) (w : World) (h : 256 < n) (hn : n ≤ 140737488355328) : Calls Tryd.prog 11 #[.slice ao n cap] w (ROpenNo w n 3) := by
  have h' : (256 : Int) < (n : Int) := by omega
  have h2 : ¬ (n : Int) < 4 := by omega
  obtain ⟨wx, hwx⟩ : ∃ wx, wx = w.alloc (.cells #[.int .i64 0, .slice none 0 0] 32) := ⟨_, rfl⟩
  have X0 : Hid (Below w.heap.size w wx) := Lib.hid (by rw [hwx]; exact below_new w _)
  have B0 : Hid (BoxE wx w.heap.size 0 (.slice none 0 0)) := Lib.hid (by rw [hwx]; exact heap_alloc_new w _)
  go_enter Tryd.func11, Tryd.ntmps11
  go_wp2_with fail
  rw [← hwx]
  clear hwx
  refine (at_box n 3 w wx _ B0.out X0.out).mono ?_
  rintro e wa ⟨g, rfl, HA⟩
  obtain ⟨c0, c1, f0, f1⟩ := HA.out.box.cells
  have HF := Lib.hid (ropen_fin w wa n 3 g HA.out)
  unfold fin2 at HF
  go_wp2
  generalize (World.setCell (World.setCell wa _ _) _ _) = W at HF ⊢
  obtain ⟨d0, d1, _, _⟩ := HF.out.1.cells
  refine bodyPost_ret (v := .tuple #[.int .i64 0, .slice none 0 0, .agg #[.int .i64 3, .slice (some ⟨g, 0, none⟩) 1 1]]) ?_ rfl HF.out.2
  simp [results, Tryd.results11, go_sem, d0, d1]

set_option maxRecDepth 100000 in
set_option maxHeartbeats 1000000 in
theorem ropen_any (ao : Option Addr) (cap : Nat) (l : List UInt8) (w : World) (hv : BytesAt w (.slice ao l.length cap) l) (hcap : l.length ≤ cap) (h4 : 4 ≤ l.length) (h256 : l.length ≤ 256) : Calls Tryd.prog 11 #[.slice ao l.length cap] w fun e w' => (opCode l = 0 → ROpenOk w l e w') ∧ (opCode l ≠ 0 → ROpenNo w l.length (opCode l) e w') := by
  have HC : Hid (opCode l = if (l.drop (l.length - 2) == sumB (l.take (l.length - 2))) = false then 5 else 0) := Lib.hid (by unfold opCode; rw [if_neg (by omega), if_neg (by omega)])
  obtain ⟨ao', cap', e, hc⟩ := id hv
  simp only [Value.slice.injEq] at e
  obtain ⟨rfl, _, rfl⟩ := e
  obtain ⟨ab, aoff, rfl, c0⟩ := hc 0 (by omega)
  have hd : l.headD 0 = l[0] := by cases l with | nil => simp at h4 | cons x l => rfl
  have HV := Lib.hid hv
  obtain ⟨n, hn⟩ : ∃ n : Nat, n = l.length - 2 := ⟨_, rfl⟩
  have P1 : Hid (∀ c, BytesAt w (.slice (some ⟨ab, aoff + n, none⟩) 2 c) (l.drop n)) := Lib.hid fun c => by
    have := part_at hv n 2 c (by omega)
    rwa [List.take_of_length_le (by rw [List.length_drop]; omega)] at this
  have P2 : Hid (∀ c, BytesAt w (.slice (some ⟨ab, aoff, none⟩) n c) (l.take n)) := Lib.hid fun c => by
    have := part_at hv 0 n c (by omega)
    rwa [List.drop_zero, Nat.add_zero] at this
  have P3 : Hid (∀ c, BytesAt w (.slice (some ⟨ab, aoff + 1, none⟩) (n - 1) c) ((l.drop 1).take (n - 1))) := Lib.hid fun c => part_at hv 1 (n - 1) c (by omega)
  have P4 : Hid (∀ (v : Value) (W : World), W.ownsRow w.heap.size 5 1 v ((l.drop 1).take (n - 1)).length (bcells ((l.drop 1).take (n - 1))) → W.ownsRow w.heap.size 5 1 v (l.length - 3) (bcells ((l.drop 1).take (l.length - 3)))) := Lib.hid fun v W h => by
    rwa [show ((l.drop 1).take (n - 1)).length = l.length - 3 by simp; omega, show n - 1 = l.length - 3 by omega] at h
  have P5 : Hid (((l.drop 1).take (n - 1)).length ≤ 256) := Lib.hid (by simp; omega)
  have P6 : Hid ((l.take n).length ≤ 256) := Lib.hid (by simp; omega)
  have P7 : Hid (((l.drop 1).take (n - 1)).length = n - 1) := Lib.hid (by simp; omega)
  have HH : Hid (((l.headD 0).toNat : Int) = (l[0].toNat : Int)) := Lib.hid (by rw [hd])
  have b0 := byte_lt l[0]
  have hi : (opCode l = if (l.drop n == sumB (l.take n)) = false then 5 else 0) := by rw [HC.out, ← hn]
  have HI := Lib.hid hi
  obtain ⟨L, hL⟩ : ∃ L, L = l.length := ⟨_, rfl⟩
  have hn2 : (L : Int) - 2 = (n : Int) := by omega
  have hn3 : n + 2 = L := by omega
  have hn4 : 2 ≤ n := by omega
  rw [← hL] at h4 h256 hcap ⊢
  have HL := Lib.hid hL
  rw [Nat.add_zero] at c0
  generalize (l[0]'(by omega)).toNat = z0 at *
  clear hv hc hL hd HC hi hn
  obtain ⟨wx, hwx⟩ : ∃ wx, wx = w.alloc (.cells #[.int .i64 0, .slice none 0 0] 32) := ⟨_, rfl⟩
  have X0 : Hid (Below w.heap.size w wx) := Lib.hid (by rw [hwx]; exact below_new w _)
  have B0 : Hid (BoxE wx w.heap.size 0 (.slice none 0 0)) := Lib.hid (by rw [hwx]; exact heap_alloc_new w _)
  have i0 : (0 : Int) ≤ (n : Int) := by omega
  have i1 : (n : Int) ≤ (L : Int) := by omega
  have i2 : (L : Int) ≤ (cap : Int) := by omega
  have i3 : (n : Int) ≤ (cap : Int) := by omega
  have i4 : n < cap := by omega
  have i5 : n ≤ L := by omega
  have i6 : n ≤ cap := by omega
  have i7 : ¬ cap = n := by omega
  have i8 : L - n = 2 := by omega
  have i9 : ¬ cap = 0 := by omega
  have i10 : 0 < cap := by omega
  have hlx := Lib.hid (lt_cell c0)
  have hlne : ab ≠ w.heap.size := by have : ab < w.heap.size := hlx.out; omega
  go_enter Tryd.func11, Tryd.ntmps11
  go_wp2_with fail
  rw [← hwx]
  clear hwx
  have BD : Hid (Below wx.heap.size wx wx.drew) := Lib.hid (Below.refl _ wx).drew
  go_region_held3 (fun _ => True) (trivial)
    (first
      | (go_at_call 28; refine (refModbus_any _ (l.take n) _ (((P2.out _).on X0.out).on BD.out) (by have := P6.out; unfold maxLen; omega)).mono ?_; rintro e w1 ⟨rfl, rfl⟩; simp only [])
      | (go_at_call 27; refine (le2 _ _).mono ?_; rintro e w1 ⟨v1, rfl, ho, hb⟩; rw [le_sum] at ho; have HO1 := Lib.hid ho; have HB1 : Hid (Below wx.heap.size wx w1) := Lib.hid (BD.out.trans hb); clear ho hb; simp only [])
      | (go_at_call 12; refine (alike_any _ _ _ _ _ (((P1.out _).on X0.out).on HB1.out) (bytesAt_own HO1.out)).mono ?_; rintro e w2 ⟨rfl, rfl⟩; simp only []))
  have X1 : Hid (Below w.heap.size w w1) := Lib.hid (X0.out.trans (HB1.out.mono X0.out.size))
  have B1 := Lib.hid (B0.out.on HB1.out)
  rcases Bool.eq_false_or_eq_true (l.drop n == sumB (l.take n)) with eq | eq
  · have HO : Hid (opCode l = 0) := Lib.hid (by rw [HI.out, eq]; rfl)
    rw [eq]
    go_wp2_with fail
    have c1 : w1.cell? ⟨ab, aoff, none⟩ = some (.int .u8 (z0 : Int)) := (X1.out.cell (p := ⟨ab, aoff, none⟩) hlx.out).trans c0
    have BD1 : Hid (Below w1.heap.size w1 w1.drew) := Lib.hid (Below.refl _ w1).drew
    have hs1 := Lib.hid X1.out.size
    have j1 : (1 : Int) ≤ (n : Int) := by omega
    have j2 : 1 < cap := by omega
    have j3 : ¬ cap = 1 := by omega
    have j4 : 1 ≤ n := by omega
    have j5 : 1 ≤ cap := by omega
    have j6 : 0 < L := by omega
    have j7 : (0 : Int) < (L : Int) := by omega
    have j8 : IntKind.i64.wrap (z0 : Int) = (z0 : Int) := by rw [IntKind.wrap_i64]; omega
    clear c0
    go_region_held3 (fun w' => w'.cell? ⟨ab, aoff, none⟩ = some (.int .u8 (z0 : Int)))
      (first | exact c1 | exact d1 | exact fin2_cell d1 hlne | go_keep)
      ((go_at_call 7; refine (copy_any _ ((l.drop 1).take (n - 1)) _ (((P3.out _).on X1.out).on BD1.out) (by have := P5.out; omega)).mono ?_; rintro e w2 ⟨v2, rfl, ho, hb⟩; have HO2 : Hid (w2.ownsRow w.heap.size 5 1 v2 (l.length - 3) (bcells ((l.drop 1).take (l.length - 3)))) := Lib.hid (P4.out _ _ (own_base ho (by have := hs1.out; simp; omega))); have HB2 : Hid (Below w.heap.size w w2) := Lib.hid ((X1.out.trans ((BD1.out.trans hb).mono X1.out.size))); have B2 := Lib.hid (B1.out.on (BD1.out.trans hb)); have d1 := ((BD1.out.trans hb).cell (lt_cell c1)).trans c1; obtain ⟨k0, k1, k2, k3⟩ := B2.out.cells; clear ho hb; simp only []))
    have HF : Hid (BoxE (fin2 w2 w.heap.size 0 (.slice none 0 0)) w.heap.size 0 (.slice none 0 0) ∧ ROpenOk w l (.returned (.tuple #[.int .i64 (z0 : Int), v2, e0])) (fin2 w2 w.heap.size 0 (.slice none 0 0))) := Lib.hid ⟨fin2_box B2.out _ _, v2, by rw [HH.out], ownsRow_off HO2.out (fin2_off _ _ _ _) (fun k e s => row_no HO2.out B2.out (by decide) (by rw [e, s])), fin2_below HB2.out _ (Nat.le_refl _) _ _⟩
    unfold fin2 at HF
    obtain ⟨a2, q2, rfl⟩ := row_form HO2.out
    generalize (World.setCell (World.setCell w2 _ _) _ _) = W at HF ⊢
    obtain ⟨t0, t1, _, _⟩ := HF.out.1.cells
    clear d1 c1 k0 k1 k2 k3
    go_wp2
    refine bodyPost_ret (v := .tuple #[.int .i64 (z0 : Int), .slice a2 (l.length - 3) q2, e0]) ?_ rfl ⟨fun _ => HF.out.2, fun h => absurd HO.out h⟩
    simp [results, Tryd.results11, go_sem, t0, t1, e0]
  · have HO : Hid (opCode l = 5) := Lib.hid (by rw [HI.out, eq]; rfl)
    rw [eq]
    go_wp2_with fail
    refine (at_box L 5 w w1 _ B1.out X1.out).mono ?_
    rintro e wa ⟨g, rfl, HA⟩
    obtain ⟨b0, b1, f0, f1⟩ := HA.out.box.cells
    have HF := Lib.hid (ropen_fin w wa L 5 g HA.out)
    unfold fin2 at HF
    go_wp2
    generalize (World.setCell (World.setCell wa _ _) _ _) = W at HF ⊢
    obtain ⟨d0, d1, _, _⟩ := HF.out.1.cells
    refine bodyPost_ret (v := .tuple #[.int .i64 0, .slice none 0 0, .agg #[.int .i64 5, .slice (some ⟨g, 0, none⟩) 1 1]]) ?_ rfl ⟨fun h => absurd (HO.out.symm.trans h) (by decide), fun _ => by rw [HO.out]; exact HF.out.2⟩
    simp [results, Tryd.results11, go_sem, d0, d1]
end Go.Proofs.YthcehcfeedikkaaDoor
