/- yardlaw1.FailEmpty answers true for every two names and numbers; memory that was there stands. -/
import Derived.Test.YtcdjiejpccakaaaDoorThrough
import Derived.Test.YtcdjiejpccakaaaDoorDecAll
namespace Go.Proofs.YtcdjiejpccakaaaDoor
open Go.RowKit Go.Extern.Stop Go.Stop Go.Extern

theorem direct_nil (w : World) : Calls Tryd.prog 40 #[.nilIface] w fun e w' => e = .returned (.pointer none) ∧ Below w.heap.size w w' := by
  go_enter Tryd.func40, Tryd.ntmps40
  go_wp2_with fail
  refine (near_nil _).mono ?_
  rintro e w' ⟨rfl, hb⟩
  have HB := Lib.hid hb
  clear hb
  go_wp2
  go_ret
  exact ⟨rfl, HB.out⟩
theorem tail_nil (w : World) : Calls Tryd.prog 41 #[.nilIface] w fun e w' => e = .returned (.string ⟨#[]⟩) ∧ Below w.heap.size w w' := by
  go_enter Tryd.func41, Tryd.ntmps41
  go_wp2
  go_ret
  exact ⟨rfl, below_new _ _⟩

set_option maxRecDepth 100000 in
set_option maxHeartbeats 2000000 in
/-- Error of a Fail without an error: its place alone. -/
theorem error_empty (b : Nat) (s : ByteArray) (n : Int) (hn : IsInt n) (hs : s.size ≤ 1000) (w : World) (hg : Ready w) (k0 : w.cell? ⟨b, 0, none⟩ = some (.string s)) (k1 : w.cell? ⟨b, 1, none⟩ = some (.int .i64 n)) (k2 : w.cell? ⟨b, 2, none⟩ = some .nilIface) :
    Calls Tryd.prog 24 #[.pointer (some ⟨b, 0, none⟩)] w fun e w' => e = .returned (.string (place s n)) ∧ Below w.heap.size w w' := by
  have HG := Lib.hid hg
  have HN := Lib.hid hn
  have HK := Lib.hid (And.intro k0 (And.intro k1 k2))
  have hlt : b < w.heap.size := lt_of_cell k0
  have hps := place_size s n hn
  have hb0 : Below w.heap.size w (w.alloc (.cells #[.pointer none, .slice none 0 0] 63)) := below_new _ _
  have c0 : (w.alloc (.cells #[.pointer none, .slice none 0 0] 63)).cell? ⟨b, 0, none⟩ = some (.string s) := (hb0.cell (p := ⟨b, 0, none⟩) hlt).trans k0
  have c1 : (w.alloc (.cells #[.pointer none, .slice none 0 0] 63)).cell? ⟨b, 1, none⟩ = some (.int .i64 n) := (hb0.cell (p := ⟨b, 1, none⟩) hlt).trans k1
  have HI0 : Hid (Lib.IsBuilderF 63 5 w.heap.size w.heap.size (Lib.byteCells []) (w.alloc (.cells #[.pointer none, .slice none 0 0] 63))) := Lib.hid (Lib.IsBuilderF.of (Lib.fresh_isBuilder 63 5 w))
  have HB0 := Lib.hid hb0
  clear hg hn k0 k1 k2 hb0
  go_enter Tryd.func24, Tryd.ntmps24
  go_wp2
  generalize w.alloc (.cells #[.pointer none, .slice none 0 0] 63) = w0 at *
  go_still_tail 8, (by kernel_rfl)
  go_wp2_with fail
  have hbd : Below w0.heap.size w0 w0.drew := (Below.refl _ _).drew
  refine (place_any s n HN.out _ (HG.out.on (HB0.out.trans (hbd.mono HB0.out.size))) (by omega)).mono ?_
  rintro e w1 ⟨rfl, hb⟩
  have HB1 : Hid (Below w0.heap.size w0 w1) := Lib.hid (hbd.trans hb)
  clear hb hbd c0 c1
  go_wp2_with fail
  refine (write_any w.heap.size w.heap.size _ _ _ (builder_on HI0.out HB1.out) (by rw [Lib.byteCells_length]; simp only [List.length_nil]; omega) (Nat.le_trans HB0.out.size HB1.out.size)).mono ?_
  rintro e w2 ⟨rfl, hbd2, hb2, hk2⟩
  have HI2 : Hid (Lib.IsBuilderF 63 5 w.heap.size w.heap.size (Lib.byteCells (place s n).data.toList) w2) := Lib.hid (.inr hbd2)
  have HB2 : Hid (Below w.heap.size w w2) := Lib.hid ((HB0.out.trans (HB1.out.mono HB0.out.size)).trans hb2)
  have c2 : w2.cell? ⟨b, 2, none⟩ = some .nilIface := (HB2.out.cell (p := ⟨b, 2, none⟩) hlt).trans HK.out.2.2
  clear hbd2 hb2 hk2
  go_wp2_with fail
  refine (direct_nil _).mono ?_
  rintro e w3 ⟨rfl, hb⟩
  have HB3 : Hid (Below w2.heap.size w2 w3) := Lib.hid hb
  have c3 : w3.cell? ⟨b, 2, none⟩ = some .nilIface := (HB3.out.cell (p := ⟨b, 2, none⟩) (Nat.lt_of_lt_of_le hlt HB2.out.size)).trans c2
  clear hb c2
  go_wp2
  refine wp_loop_rounds 1 ?_
  rw [rounds_succ]
  go_wp2_with fail
  refine (tail_nil _).mono ?_
  rintro e w4 ⟨rfl, hb⟩
  have HB4 : Hid (Below w2.heap.size w2 w4) := Lib.hid (HB3.out.trans (hb.mono HB3.out.size))
  clear hb
  go_wp2_with fail
  refine (write_any w.heap.size w.heap.size _ _ _ (builder_on HI2.out HB4.out) (by rw [Lib.byteCells_length, Array.length_toList]; show (place s n).size + 0 ≤ _; omega) (Nat.le_trans HB2.out.size HB4.out.size)).mono ?_
  rintro e w5 ⟨rfl, hbd5, hb5, hk5⟩
  have HI5 : Hid (Lib.IsBuilderF 63 5 w.heap.size w.heap.size (Lib.byteCells (place s n).data.toList) w5) := Lib.hid (.inr (by simpa [Lib.strCells] using hbd5))
  have HB5 : Hid (Below w.heap.size w w5) := Lib.hid ((HB2.out.trans (HB4.out.mono HB2.out.size)).trans hb5)
  clear hbd5 hb5 hk5
  go_wp2_with fail
  refine (Tryd.Builder_String_any_k w.heap.size w.heap.size _ _ HI5.out HB5.out.size).mono ?_
  rintro e w6 ⟨rfl, _, hb6, _⟩
  have HB6 : Hid (Below w.heap.size w w6) := Lib.hid (HB5.out.trans hb6)
  clear hb6
  go_wp2
  go_ret
  exact ⟨rfl, HB6.out⟩

set_option maxRecDepth 100000 in
set_option maxHeartbeats 2000000 in
/-- .. where the bounds of the law do not hold. -/
theorem empty_out (a b : ByteArray) (p q : Int) (w : World) (hg : Ready w) (h : 1000 < a.size ∨ 1000 < b.size) :
    Calls Tryd.prog 7 #[.string a, .string b, .int .i64 p, .int .i64 q] w fun e w' => e = .returned (.bool true) ∧ Below w.heap.size w w' := by
  have HG := Lib.hid hg
  clear hg
  by_cases ha : 1000 < a.size
  · have ha' : (1000 : Int) < (a.size : Int) := by omega
    have had : decide ((1000 : Int) < (a.size : Int)) = true := by simp; omega
    clear h ha
    go_enter Tryd.func7, Tryd.ntmps7
    go_wp2_with fail
    refine (first_any _ HG.out).mono ?_
    rintro e w1 ⟨rfl, hb⟩
    have HB := Lib.hid hb
    clear hb
    go_wp2_with fail
    refine (first_any _ (HG.out.on HB.out)).mono ?_
    rintro e w2 ⟨rfl, hb⟩
    have HB2 := Lib.hid (HB.out.trans (hb.mono HB.out.size))
    clear hb
    go_wp2
    go_ret
    exact ⟨rfl, HB2.out⟩
  · have had : decide ((1000 : Int) < (a.size : Int)) = false := by simp; omega
    have hbd : decide ((1000 : Int) < (b.size : Int)) = true := by simp; omega
    have hb' : (1000 : Int) < (b.size : Int) := by omega
    have ha' : ¬ (1000 : Int) < (a.size : Int) := by omega
    clear h ha
    go_enter Tryd.func7, Tryd.ntmps7
    go_wp2_with fail
    refine (first_any _ HG.out).mono ?_
    rintro e w1 ⟨rfl, hb⟩
    have HB := Lib.hid hb
    clear hb
    go_wp2_with fail
    refine (first_any _ (HG.out.on HB.out)).mono ?_
    rintro e w2 ⟨rfl, hb⟩
    have HB2 := Lib.hid (HB.out.trans (hb.mono HB.out.size))
    clear hb
    go_wp2
    go_ret
    exact ⟨rfl, HB2.out⟩

theorem chain_empty (w : World) (a b : ByteArray) (p q : Int) :
    Chain ((w.alloc (.cells #[.string a, .int .i64 p, .nilIface] 47)).alloc (.cells #[.string b, .int .i64 q, .iface 42 (.pointer (some ⟨w.heap.size, 0, none⟩))] 47)) .nilIface [(b, q), (a, p)] (.iface 42 (.pointer (some ⟨w.heap.size + 1, 0, none⟩)))
    ∧ Chain ((w.alloc (.cells #[.string a, .int .i64 p, .nilIface] 47)).alloc (.cells #[.string b, .int .i64 q, .iface 42 (.pointer (some ⟨w.heap.size, 0, none⟩))] 47)) .nilIface [(a, p)] (.iface 42 (.pointer (some ⟨w.heap.size, 0, none⟩))) := by
  have h : Chain ((w.alloc (.cells #[.string a, .int .i64 p, .nilIface] 47)).alloc (.cells #[.string b, .int .i64 q, .iface 42 (.pointer (some ⟨w.heap.size, 0, none⟩))] 47)) .nilIface [(a, p)] (.iface 42 (.pointer (some ⟨w.heap.size, 0, none⟩))) := by
    refine ⟨w.heap.size, _, rfl, by simp; omega, ?_, ?_, ?_, rfl⟩
    · rw [World.cell?_alloc_lt _ _ ⟨w.heap.size, 0, none⟩ (by simp)]; simp
    · rw [World.cell?_alloc_lt _ _ ⟨w.heap.size, 1, none⟩ (by simp)]; simp
    · rw [World.cell?_alloc_lt _ _ ⟨w.heap.size, 2, none⟩ (by simp)]; simp
  exact ⟨⟨w.heap.size + 1, _, rfl, by simp, by simp, by simp, by simp, h⟩, h⟩

set_option maxRecDepth 100000 in
set_option maxHeartbeats 4000000 in
/-- .. where they do. -/
theorem empty_in (a b : ByteArray) (p q : Int) (hp : IsInt p) (ha : a.size ≤ 1000) (hb : b.size ≤ 1000) (w : World) (hg : Ready w) :
    Calls Tryd.prog 7 #[.string a, .string b, .int .i64 p, .int .i64 q] w fun e w' => e = .returned (.bool true) ∧ Below w.heap.size w w' := by
  have HG := Lib.hid hg
  have HP := Lib.hid hp
  have had : decide ((1000 : Int) < (a.size : Int)) = false := by simp; omega
  have hbd : decide ((1000 : Int) < (b.size : Int)) = false := by simp; omega
  have hil := Lib.itoa_length_le p hp.1 hp.2
  clear hg hp hb
  go_enter Tryd.func7, Tryd.ntmps7
  go_wp2_with fail
  refine (first_any _ HG.out).mono ?_
  rintro e w1 ⟨rfl, hb⟩
  have HB := Lib.hid hb
  clear hb
  go_wp2_with fail
  refine (in_some _ _ _ _ _).mono ?_
  rintro e w2 ⟨rfl, rfl⟩
  have HCH := Lib.hid (chain_empty w1 a b p q)
  have HB2 : Hid (Below w.heap.size w ((w1.alloc (.cells #[.string a, .int .i64 p, .nilIface] 47)).alloc (.cells #[.string b, .int .i64 q, .iface 42 (.pointer (some ⟨w1.heap.size, 0, none⟩))] 47))) := Lib.hid (HB.out.trans ((two_belowW w1 _ _).mono HB.out.size))
  generalize ((w1.alloc (.cells #[.string a, .int .i64 p, .nilIface] 47)).alloc (.cells #[.string b, .int .i64 q, .iface 42 (.pointer (some ⟨w1.heap.size, 0, none⟩))] 47)) = w2 at *
  go_wp2_with fail
  refine (path_steps _ _ _ _ (HG.out.on HB2.out).1 (.inl rfl) HCH.out.1 (by simp)).mono ?_
  rintro e w3 ⟨⟨pv, rfl, hpv⟩, hb⟩
  have HL3 := Lib.hid hpv
  have HB3 : Hid (Below w2.heap.size w2 w3) := Lib.hid hb
  clear hpv hb
  go_wp2_with fail
  refine (first_any _ ((HG.out.on HB2.out).on HB3.out)).mono ?_
  rintro e w4 ⟨rfl, hb⟩
  have HB4 : Hid (Below w2.heap.size w2 w4) := Lib.hid (HB3.out.trans (hb.mono HB3.out.size))
  have HL4 := Lib.hid (HL3.out.on hb)
  clear hb HB3 HL3
  obtain ⟨_, _, he, hfl, f0, f1, f2, _⟩ := HCH.out.2
  cases he
  rename_i zz e2
  obtain rfl : zz = .nilIface := e2
  have HF4 : Hid (w4.cell? ⟨w1.heap.size, 0, none⟩ = some (.string a) ∧ w4.cell? ⟨w1.heap.size, 1, none⟩ = some (.int .i64 p) ∧ w4.cell? ⟨w1.heap.size, 2, none⟩ = some .nilIface) :=
    Lib.hid ⟨(HB4.out.cell (p := ⟨w1.heap.size, 0, none⟩) hfl).trans f0, (HB4.out.cell (p := ⟨w1.heap.size, 1, none⟩) hfl).trans f1, (HB4.out.cell (p := ⟨w1.heap.size, 2, none⟩) hfl).trans f2⟩
  clear f0 f1 f2 hfl
  go_wp2_with fail
  refine (error_empty w1.heap.size a p HP.out ha _ ((HG.out.on HB2.out).on HB4.out) HF4.out.1 HF4.out.2.1 HF4.out.2.2).mono ?_
  rintro e w5 ⟨rfl, hb⟩
  have HB5 : Hid (Below w4.heap.size w4 w5) := Lib.hid hb
  clear hb
  go_wp2_with fail
  refine (dec_any p HP.out _).mono ?_
  rintro e w6 ⟨rfl, hb⟩
  have HB6 : Hid (Below w4.heap.size w4 w6) := Lib.hid (HB5.out.trans (hb.mono HB5.out.size))
  have c2 : w6.cell? ⟨w1.heap.size, 2, none⟩ = some .nilIface := (HB6.out.cell (p := ⟨w1.heap.size, 2, none⟩) (lt_of_cell HF4.out.2.2)).trans HF4.out.2.2
  have heq : ((place a p).toList == (a ++ ⟨#[32]⟩ ++ ⟨(Lib.itoa p).toArray⟩).toList) = true := beq_self_eq_true (place a p).toList
  clear hb HB5
  go_wp2_with fail
  refine (unwrap_any _ _ _ c2).mono ?_
  rintro e w7 ⟨rfl, rfl⟩
  go_wp2_with fail
  have HB62 : Hid (Below w2.heap.size w2 w6) := Lib.hid (HB4.out.trans (HB6.out.mono HB4.out.size))
  refine (of_empty _ _ ((HG.out.on HB2.out).on HB62.out).1 c2).mono ?_
  rintro e w7 ⟨rfl, hb⟩
  have HB7 : Hid (Below w2.heap.size w2 w7) := Lib.hid (HB62.out.trans (hb.mono HB62.out.size))
  have HL7 := Lib.hid ((HL4.out.on HB6.out).on hb)
  clear hb HB62 c2
  go_wp2_with fail
  refine (path_steps _ _ _ _ ((HG.out.on HB2.out).on HB7.out).1 (.inl rfl) (HCH.out.2.on HB7.out) (by simp)).mono ?_
  rintro e w8 ⟨⟨qv, rfl, hqv⟩, hb⟩
  have HB8 : Hid (Below w2.heap.size w2 w8) := Lib.hid (HB7.out.trans (hb.mono HB7.out.size))
  obtain ⟨ao, cap, rfl, hcl⟩ := HL7.out.on hb
  obtain ⟨g, rfl, _, l0, l1⟩ := hcl 0 (by simp)
  obtain ⟨g', hg', _, l2, l3⟩ := hcl 1 (by simp)
  obtain rfl : g = g' := by cases hg'; rfl
  obtain ⟨ao2, cap2, rfl, _⟩ := hqv
  simp only [Nat.zero_mul, Nat.zero_add, Nat.one_mul, List.getElem_cons_zero, List.getElem_cons_succ] at l0 l1 l2 l3
  clear hb hcl hg'
  have HB9 : Hid (Below w.heap.size w w8) := Lib.hid (HB2.out.trans (HB8.out.mono HB2.out.size))
  simp only [List.length_cons, List.length_nil, Nat.zero_add]
  go_wp2
  go_ret
  exact ⟨rfl, HB9.out⟩

theorem empty_any (a b : ByteArray) (p q : Int) (hp : IsInt p) (w : World) (hg : Ready w) :
    Calls Tryd.prog 7 #[.string a, .string b, .int .i64 p, .int .i64 q] w fun e w' => e = .returned (.bool true) ∧ Below w.heap.size w w' := by
  by_cases ha : a.size ≤ 1000
  · by_cases hb : b.size ≤ 1000
    · exact empty_in a b p q hp ha hb w hg
    · exact empty_out a b p q w hg (.inr (by omega))
  · exact empty_out a b p q w hg (.inl (by omega))
end Go.Proofs.YtcdjiejpccakaaaDoor
