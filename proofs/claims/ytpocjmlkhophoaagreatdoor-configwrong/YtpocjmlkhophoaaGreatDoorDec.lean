/- yardref.Dec of every int: its decimal digits, as strconv.Itoa's; memory that was there stands. -/
import Derived.Test.YtpocjmlkhophoaaGreatDoorText
import Derived.Deep.RegionWith
import Derived.IntWalk
import Derived.Laws.IdiomStrings
namespace Go.Proofs.YtpocjmlkhophoaaGreatDoor
open Go.RowKit Go.Extern.Stop Go.Stop Go.Extern

/-- A byte as a string of one letter. -/
def letter (x : Int) : ByteArray := ⟨#[UInt8.ofNat x.toNat]⟩
theorem conv_one (W : World) (g : Nat) (x : Int) (h0 : 0 ≤ x) (h1 : x ≤ 255) (hc : W.cell? ⟨g, 0, none⟩ = some (.int .u8 x)) : (convert 37 9 (.slice (some ⟨g, 0, none⟩) 1 1)).run Tryz.prog W = .ok (.string (letter x)) W := by
  have h := run_convert_bytes_back (P := Tryz.prog) W 37 9 5 ⟨g, 0, none⟩ 1 [UInt8.ofNat x.toNat] Tryz.underlying37 Tryz.underlying5 Tryz.underlying9 (fun j hj => by
    have : j = 0 := by simpa using hj
    subst this
    have e : ((UInt8.ofNat x.toNat).toNat : Int) = x := by
      rw [UInt8.toNat_ofNat']
      omega
    show W.cell? ⟨g, 0, none⟩ = some (.int .u8 ((UInt8.ofNat x.toNat).toNat : Int))
    rw [e]
    exact hc)
  exact h

theorem wrap_u8 (x : Int) (h0 : 0 ≤ x) (h1 : x ≤ 255) : IntKind.u8.wrap x = x := by
  simp only [IntKind.wrap_u8]
  omega
theorem below_alloc (w : World) (o : Obj) : Below w.heap.size w (w.alloc o) := (Below.refl _ _).alloc (Nat.le_refl _) _
theorem end_one {w w' : World} (hb : Below w.drew.heap.size w.drew w') (o : Obj) : Below w.heap.size w (w'.alloc o) :=
  ((Below.refl _ _).drew.trans hb).alloc hb.size _
theorem end_two {w w' : World} {o : Obj} (hb : Below (w.alloc o).drew.heap.size (w.alloc o).drew w') : Below w.heap.size w w' :=
  (below_alloc w o).drew.trans (hb.mono (below_alloc w o).size)

set_option maxRecDepth 100000 in
theorem dec_small (n : Int) (h0 : 0 ≤ n) (h1 : n < 10) (w : World) : Calls Tryz.prog 35 #[.int .i64 n] w fun e w' => e = .returned (.string (letter (48 + n))) ∧ Below w.heap.size w w' := by
  have hcv := conv_one (w.alloc (.cells #[.int .u8 (48 + n)] 5)) w.heap.size (48 + n) (by omega) (by omega) (by simp)
  go_enter Tryz.func35, Tryz.ntmps35
  go_wp2
  go_ret
  exact ⟨rfl, below_alloc _ _⟩
set_option maxRecDepth 100000 in
set_option maxHeartbeats 1000000 in
theorem dec_big (n : Int) (r : ByteArray) (hr : r.size ≤ 100) (h1 : 10 ≤ n) (h2 : n ≤ 9223372036854775807) (w : World) (ih : Hid (∀ w : World, Calls Tryz.prog 35 #[.int .i64 (n / 10)] w fun e w' => e = .returned (.string r) ∧ Below w.heap.size w w')) :
    Calls Tryz.prog 35 #[.int .i64 n] w fun e w' => e = .returned (.string (r ++ letter (48 + n % 10))) ∧ Below w.heap.size w w' := by
  have hd : IntKind.i64.wrap (n.tdiv 10) = n / 10 := by rw [Int.tdiv_eq_ediv_of_nonneg (by omega)]; exact IntWalk.i64_in _ (by omega)
  have hm : n.tmod 10 = n % 10 := by rw [Int.tmod_eq_emod_of_nonneg (by omega)]
  have hs : IntKind.i64.wrap (48 + n % 10) = 48 + n % 10 := IntWalk.i64_in _ (by omega)
  have hu : IntKind.u8.wrap (48 + n % 10) = 48 + n % 10 := wrap_u8 _ (by omega) (by omega)
  have hl : (letter (48 + n % 10)).size = 1 := rfl
  have hcv := fun W g => conv_one W g (48 + n % 10) (by omega) (by omega)
  have hn : ¬ n < 0 := by omega
  have hn2 : ¬ n < 10 := by omega
  clear h2
  go_enter Tryz.func35, Tryz.ntmps35
  go_wp2
  go_region_with (go_at_call 35; refine (ih.out _).mono ?_; rintro e w' ⟨rfl, hb⟩; have hbc := bcell hb)
  all_goals
    have HB := Lib.hid hb
    clear hb hbc
    go_wp2
    go_ret
    first
      | exact ⟨rfl, end_one HB.out _⟩
      | exact ⟨rfl, end_two HB.out⟩

set_option maxRecDepth 100000 in
theorem dec_neg1 (n : Int) (h0 : n < 0) (h1 : -10 < n) (w : World) : Calls Tryz.prog 35 #[.int .i64 n] w fun e w' => e = .returned (.string (⟨#[45]⟩ ++ letter (48 - n))) ∧ Below w.heap.size w w' := by
  have hd : n.tdiv 10 = 0 := by
    obtain ⟨m, rfl⟩ : ∃ m : Nat, n = -(m : Int) := ⟨n.natAbs, by omega⟩
    rw [Int.neg_tdiv, Int.tdiv_eq_zero_of_lt (by omega) (by omega)]
    rfl
  have hm : n.tmod 10 = n := by
    obtain ⟨m, rfl⟩ : ∃ m : Nat, n = -(m : Int) := ⟨n.natAbs, by omega⟩
    rw [Int.neg_tmod, Int.tmod_eq_of_lt (by omega) (by omega)]
  have hl : (letter (48 - n)).size = 1 := rfl
  have hcv := conv_one (w.alloc (.cells #[.int .u8 (48 - n)] 5)) w.heap.size (48 - n) (by omega) (by omega) (by simp)
  go_enter Tryz.func35, Tryz.ntmps35
  go_wp2
  go_ret
  exact ⟨rfl, below_alloc _ _⟩

set_option maxRecDepth 100000 in
set_option maxHeartbeats 1000000 in
theorem dec_neg2 (n q k t d : Int) (r : ByteArray) (hr : r.size ≤ 100) (h1 : n ≤ -10) (hd0 : n.tdiv 10 = q) (hd : IntKind.i64.wrap q = q) (hk : IntKind.i64.wrap (-q) = k) (hq : (q == 0) = false) (hm : n.tmod 10 = t) (hs : IntKind.i64.wrap (48 - t) = d) (hu : IntKind.u8.wrap d = d) (d0 : 0 ≤ d) (d1 : d ≤ 255)
    (w : World) (ih : Hid (∀ w : World, Calls Tryz.prog 35 #[.int .i64 k] w fun e w' => e = .returned (.string r) ∧ Below w.heap.size w w')) :
    Calls Tryz.prog 35 #[.int .i64 n] w fun e w' => e = .returned (.string (⟨#[45]⟩ ++ r ++ letter d)) ∧ Below w.heap.size w w' := by
  have hl : (letter d).size = 1 := rfl
  have hcv := fun W g => conv_one W g d d0 d1
  have hn : n < 0 := by omega
  have hn' : decide (n < 0) = true := by simp; omega
  clear h1
  go_enter Tryz.func35, Tryz.ntmps35
  go_wp2
  go_region_with (go_at_call 35; refine (ih.out _).mono ?_; rintro e w' ⟨rfl, hb⟩; have hbc := bcell hb)
  all_goals
    have HB := Lib.hid hb
    clear hb hbc
    go_wp2
    go_ret
    first
      | exact ⟨rfl, end_one HB.out _⟩
      | exact ⟨rfl, end_two HB.out⟩
end Go.Proofs.YtpocjmlkhophoaaGreatDoor
