/- yardlaw1.FailNil answers true for every list of steps; memory that was there stands. -/
import Derived.Test.YtcdjiejpccakaaaDoorFew
namespace Go.Proofs.YtcdjiejpccakaaaDoor
open Go.RowKit Go.Extern.Stop Go.Stop Go.Extern

theorem chain_cons {w : World} {t : Value} {L : List (ByteArray × Int)} {te : TypeId} {ye : Value} (s : ByteArray) (p : Int) (h : Chain w t L (.iface te ye)) :
    Chain (w.alloc (.cells #[.string s, .int .i64 p, .iface te ye] 47)) t ((s, p) :: L) (.iface 42 (.pointer (some ⟨w.heap.size, 0, none⟩))) :=
  ⟨w.heap.size, _, rfl, by simp, by simp, by simp, by simp, h.on ((Below.refl _ _).alloc (Nat.le_refl _) _)⟩
theorem below_new (w : World) (o : Obj) : Below w.heap.size w (w.alloc o) := (Below.refl _ _).alloc (Nat.le_refl _) _
theorem take_rev (l : List (ByteArray × Int)) (i : Nat) (h : i < l.length) : (l.take (i + 1)).reverse = (l[i].1, l[i].2) :: (l.take i).reverse := by
  rw [List.take_succ_eq_append_getElem h, List.reverse_append]
  rfl
theorem new_any (s : ByteArray) (w : World) : Calls Tryd.prog 23 #[.string s] w fun e w' => e = .returned (.iface 83 (.pointer (some ⟨w.heap.size, 0, none⟩))) ∧ w' = w.alloc (.cells #[.string s] 85) := by
  go_enter Tryd.func23, Tryd.ntmps23
  go_wp2
  go_ret
  exact ⟨rfl, rfl⟩

def NilInv (w : World) (l : List (ByteArray × Int)) (ea : Addr) (i : Nat) (mv : Value) (wr : World) : Prop :=
  Chain wr (.iface 83 (.pointer (some ea))) (l.take i).reverse mv ∧ Below w.heap.size w wr

set_option maxRecDepth 100000 in
set_option maxHeartbeats 4000000 in
theorem nil_any (v : Value) (l : List (ByteArray × Int)) (w : World) (hs : StepsAt w v l) (hg : Ready w) :
    Calls Tryd.prog 6 #[v] w fun e w' => e = .returned (.bool true) ∧ Below w.heap.size w w' := by
  have HS := Lib.hid hs
  have HG := Lib.hid hg
  obtain ⟨ao, cap, rfl, hl, hx, hcell⟩ := hs
  clear hg hx hcell hl
  go_enter Tryd.func6, Tryd.ntmps6
  go_wp2_with fail
  refine (first_any _ HG.out).mono ?_
  rintro e w1 ⟨rfl, hb⟩
  have HB := Lib.hid hb
  clear hb
  cases hfew : fewB l with
  | false =>
    have HF := Lib.hid hfew
    clear hfew
    go_wp2_with fail
    refine (few_any _ l _ (HS.out.on HB.out)).mono ?_
    rintro e w2 ⟨rfl, rfl⟩
    rw [HF.out]
    go_wp2_with fail
    refine (first_any _ (HG.out.on HB.out)).mono ?_
    rintro e w2 ⟨rfl, hb⟩
    have HB2 := Lib.hid (HB.out.trans (hb.mono HB.out.size))
    clear hb
    go_wp2
    go_ret
    exact ⟨rfl, HB2.out⟩
  | true =>
    have HF := Lib.hid hfew
    clear hfew
    go_wp2_with fail
    refine (few_any _ l _ (HS.out.on HB.out)).mono ?_
    rintro e w2 ⟨rfl, rfl⟩
    rw [HF.out]
    go_wp2_with fail
    refine (new_any _ _).mono ?_
    rintro e w2 ⟨rfl, rfl⟩
    have HI : Hid (NilInv w l ⟨w1.heap.size, 0, none⟩ 0 (.iface 83 (.pointer (some ⟨w1.heap.size, 0, none⟩))) (w1.alloc (.cells #[.string ⟨#[111, 116, 104, 101, 114]⟩] 85))) := Lib.hid ⟨rfl, HB.out.trans ((below_new _ _).mono HB.out.size)⟩
    have hlen := (short_of_few HS.out HF.out).2.1
    go_wp2
    go_loopg [3, 5, 6] l.length (fun k s3 s5 s6 wr => s3 = .nilIface ∧ ∃ i : Nat, i ≤ l.length ∧ k = l.length - i ∧ s6 = .int .i64 i ∧ Hid (NilInv w l ⟨w1.heap.size, 0, none⟩ i s5 wr))
    case atStart => exact ⟨rfl, 0, Nat.zero_le _, rfl, rfl, HI⟩
    case round =>
      obtain ⟨rfl, i, hi, rfl, rfl, hinv⟩ := hrel
      by_cases hlt : i < l.length
      · obtain ⟨ao', cap', hv, _, hx, hc⟩ := HS.out.on hinv.out.2
        cases hv
        obtain ⟨b, off, rfl, hblt, h0, h1⟩ := hc i hlt
        obtain ⟨te, ye, he⟩ := hinv.out.1.iface
        subst he
        clear hc hx
        go_wp2
        go_still_tail 11, (by kernel_rfl)
        go_wp2_with fail
        refine (in_nil _ _ _).mono ?_
        rintro e w3 ⟨rfl, rfl⟩
        have hd0 : wr.drew.cell? ⟨b, off + i * 2, none⟩ = some (.string l[i].1) := h0
        have hd1 : wr.drew.cell? ⟨b, off + i * 2 + 1, none⟩ = some (.int .i64 l[i].2) := h1
        have hinv2 : Hid (NilInv w l ⟨w1.heap.size, 0, none⟩ i (.iface te ye) wr.drew) := Lib.hid ⟨hinv.out.1.on (Below.refl _ _).drew, hinv.out.2.drew⟩
        clear h0 h1 hinv
        generalize wr.drew = w2 at *
        go_wp2
        go_still_tail 11, (by kernel_rfl)
        go_wp2_with fail
        refine (in_some _ _ _ _ _).mono ?_
        rintro e w3 ⟨rfl, rfl⟩
        have hinv3 : Hid (NilInv w l ⟨w1.heap.size, 0, none⟩ (i + 1) (.iface 42 (.pointer (some ⟨w2.heap.size, 0, none⟩))) (w2.drew.alloc (.cells #[.string l[i].1, .int .i64 l[i].2, .iface te ye] 47))) := Lib.hid ⟨by
          rw [take_rev l i hlt]
          exact chain_cons (w := w2.drew) _ _ (hinv2.out.1.on (Below.refl _ _).drew), hinv2.out.2.drew.trans ((below_new w2.drew _).mono hinv2.out.2.size)⟩
        clear hinv2
        go_wp2
        go_roundg (l.length - (i + 1))
        case measure => omega
        case rel => exact ⟨rfl, i + 1, by omega, rfl, by go_num, hinv3⟩
      · have hil : i = l.length := by omega
        have HV : Hid (Chain wr (.iface 83 (.pointer (some ⟨w1.heap.size, 0, none⟩))) l.reverse u5 ∧ Below w.heap.size w wr) := Lib.hid (by have := hinv.out; unfold NilInv at this; rw [hil, List.take_length] at this; exact this)
        obtain ⟨te, ye, he⟩ := HV.out.1.iface
        subst he
        clear hil hinv
        go_wp2_with fail
        refine (first_any _ (HG.out.on HV.out.2)).mono ?_
        rintro e w3 ⟨rfl, hb⟩
        have HB3 : Hid (Below wr.heap.size wr w3) := Lib.hid hb
        clear hb
        go_wp2_with fail
        refine (of_other _ _ _ _ ((HG.out.on HV.out.2).on HB3.out).1 (HV.out.1.on HB3.out)).mono ?_
        rintro e w4 ⟨rfl, hb⟩
        have HB4 : Hid (Below wr.heap.size wr w4) := Lib.hid (HB3.out.trans (hb.mono HB3.out.size))
        clear hb HB3
        go_wp2_with fail
        refine (path_any _ _ _ _ ((HG.out.on HV.out.2).on HB4.out).1 (.inr ⟨83, _, rfl, .inr rfl⟩) (HV.out.1.on HB4.out) (by rw [List.length_reverse]; omega)).mono ?_
        rintro e w5 ⟨sl, rfl, hown, hb⟩
        have HB5 : Hid (Below wr.heap.size wr w5) := Lib.hid (HB4.out.trans (hb.mono HB4.out.size))
        obtain ⟨ao2, cap2, hsl⟩ : ∃ ao cap, sl = .slice ao l.length cap := by
          rw [List.length_reverse] at hown
          rcases hown.2 with ⟨hv, h0⟩ | ⟨g, cap, cur, hv, _⟩
          · exact ⟨none, 0, by rw [hv, h0]⟩
          · exact ⟨_, _, hv⟩
        subst hsl
        clear hb hown HB4
        go_wp2_with fail
        refine (is_self _ _ _ _ (HV.out.1.on HB5.out)).mono ?_
        rintro e w6 ⟨rfl, rfl⟩
        go_wp2_with fail
        refine (fis_other _ _ _ _ _ (HV.out.1.on HB5.out)).mono ?_
        rintro e w6 ⟨rfl, hb⟩
        have HB6 : Hid (Below wr.heap.size wr w6) := Lib.hid (HB5.out.trans (hb.mono HB5.out.size))
        clear hb HB5
        go_wp2_with fail
        refine (of_nil _).mono ?_
        rintro e w7 ⟨rfl, hb⟩
        have HB7 : Hid (Below w.heap.size w w7) := Lib.hid (HV.out.2.trans ((HB6.out.trans (hb.mono HB6.out.size)).mono HV.out.2.size))
        clear hb HB6
        go_wp2
        go_ret
        exact ⟨rfl, HB7.out⟩
end Go.Proofs.YtcdjiejpccakaaaDoor
