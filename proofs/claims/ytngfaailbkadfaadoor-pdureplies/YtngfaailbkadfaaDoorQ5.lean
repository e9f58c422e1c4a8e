/- yardref7's at, unbits, unregs: numbers out of bytes; memory that was there stands. -/
import Derived.Test.YtngfaailbkadfaaDoorQ1
import Derived.Test.YtngfaailbkadfaaDoorUn
namespace Go.Proofs.YtngfaailbkadfaaDoor
open Go.RowKit Go.Extern.Stop Go.Stop Go.Extern

/-- The number that two bytes are, from a place on. -/
def atN (b : List UInt8) (i : Nat) : Int := 256 * ((b.getD i 0).toNat : Int) + ((b.getD (i + 1) 0).toNat : Int)
theorem getD_lt (b : List UInt8) (i : Nat) : (b.getD i 0).toNat < 256 := by have := UInt8.toNat_lt (b.getD i 0); omega
theorem atN_bounds (b : List UInt8) (i : Nat) : 0 ≤ atN b i ∧ atN b i ≤ 65535 := by
  have h1 := getD_lt b i
  have h2 := getD_lt b (i + 1)
  unfold atN
  omega
theorem bytes_getD {w : World} {v : Value} {l : List UInt8} (h : BytesAt w v l) (i : Nat) (hi : i < l.length) : ∃ b off cap, v = .slice (some ⟨b, off, none⟩) l.length cap ∧ w.cell? ⟨b, off + i, none⟩ = some (.int .u8 ((l.getD i 0).toNat : Int)) := by
  obtain ⟨ao, cap, rfl, hc⟩ := h
  obtain ⟨b, off, rfl, hcell⟩ := hc i hi
  refine ⟨b, off, cap, rfl, ?_⟩
  rw [hcell]
  simp [List.getD, hi]
set_option maxRecDepth 100000 in
set_option maxHeartbeats 2000000 in
theorem at_any (v : Value) (l : List UInt8) (i : Nat) (w : World) (hv : BytesAt w v l) (hi : i + 1 < l.length) (hl : l.length ≤ 1000000) : Calls Tryd.prog 58 #[v, .int .i64 (i : Int)] w fun e w' => e = .returned (.int .i64 (atN l i)) ∧ Below w.heap.size w w' := by
  obtain ⟨b, off, cap, rfl, c0⟩ := bytes_getD hv i (by omega)
  obtain ⟨b', off', cap', he, c1⟩ := bytes_getD hv (i + 1) hi
  simp only [Value.slice.injEq, Option.some.injEq, Addr.mk.injEq, and_true, true_and] at he
  obtain ⟨⟨rfl, rfl⟩, rfl⟩ := he
  have h0 := getD_lt l i
  have h1 := getD_lt l (i + 1)
  have HA : Hid (atN l i = 256 * ((l.getD i 0).toNat : Int) + ((l.getD (i + 1) 0).toNat : Int)) := Lib.hid rfl
  have i0 : (0 : Int) ≤ (i : Int) := by omega
  have i1 : (i : Int) < (l.length : Int) := by omega
  have i2 : (i : Int) + 1 < (l.length : Int) := by omega
  have i3 : (0 : Int) ≤ (i : Int) + 1 := by omega
  have i4 : ((i : Int) + 1).toNat = i + 1 := by omega
  have i5 : wrap64 ((i : Int) + 1) = (i : Int) + 1 := by unfold wrap64; omega
  have i6 : IntKind.i64.wrap ((i : Int) + 1) = (i : Int) + 1 := by rw [IntKind.wrap_i64]; omega
  generalize (l.getD i 0).toNat = y at *
  generalize (l.getD (i + 1) 0).toNat = z at *
  have w0 : IntKind.i64.wrap (y : Int) = (y : Int) := by rw [IntKind.wrap_i64]; omega
  have w1 : IntKind.i64.wrap (z : Int) = (z : Int) := by rw [IntKind.wrap_i64]; omega
  clear hv
  go_enter Tryd.func58, Tryd.ntmps58
  go_wp2_with fail
  go_quiet (fail)
  go_wp2
  go_ret
  rw [HA.out]
  exact ⟨rfl, below_drew w nq⟩
end Go.Proofs.YtngfaailbkadfaaDoor
