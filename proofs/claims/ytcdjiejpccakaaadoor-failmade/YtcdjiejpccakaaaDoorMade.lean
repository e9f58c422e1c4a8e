/- yardlaw1.made: a code wrapped by steps, the last one outermost; of OK nothing; memory that was there stands. -/
import Derived.Test.YtcdjiejpccakaaaDoorNil
namespace Go.Proofs.YtcdjiejpccakaaaDoor
open Go.RowKit Go.Extern.Stop Go.Stop Go.Extern

/-- What made hands back of a code. -/
def MadeIs (w : World) (c : Int) (l : List (ByteArray × Int)) (e : Ending) (w' : World) : Prop :=
  ∃ v, e = .returned v ∧ Chain w' (.iface 22 (.int .i64 c)) l.reverse v ∧ Below w.heap.size w w'
def MadeInv (w : World) (c : Int) (l : List (ByteArray × Int)) (i : Nat) (mv : Value) (wr : World) : Prop :=
  Chain wr (.iface 22 (.int .i64 c)) (l.take i).reverse mv ∧ Below w.heap.size w wr

set_option maxRecDepth 100000 in
set_option maxHeartbeats 4000000 in
theorem made_some (c : Int) (hc : c ≠ 0) (v : Value) (l : List (ByteArray × Int)) (w : World) (hs : StepsAt w v l) (hlen : l.length ≤ 200) :
    Calls Tryd.prog 11 #[.int .i64 c, v] w (MadeIs w c l) := by
  have HS := Lib.hid hs
  obtain ⟨ao, cap, rfl, hl, hx, hcell⟩ := hs
  have hq : (c != 0) = true := by simpa using hc
  clear hx hcell hl hc
  go_enter Tryd.func11, Tryd.ntmps11
  go_wp2
  go_loopg [5, 6] l.length (fun k s5 s6 wr => ∃ i : Nat, i ≤ l.length ∧ k = l.length - i ∧ s6 = .int .i64 i ∧ Hid (MadeInv w c l i s5 wr))
  case atStart => exact ⟨0, Nat.zero_le _, rfl, rfl, Lib.hid ⟨rfl, Below.refl _ _⟩⟩
  case round =>
    obtain ⟨i, hi, rfl, rfl, hinv⟩ := hrel
    by_cases hlt : i < l.length
    · obtain ⟨ao', cap', hv, _, hx, hc⟩ := HS.out.on hinv.out.2
      cases hv
      obtain ⟨b, off, rfl, hblt, h0, h1⟩ := hc i hlt
      obtain ⟨te, ye, he⟩ := hinv.out.1.iface
      subst he
      clear hc hx
      go_wp2
      go_still_tail 11, (by kernel_rfl)
      go_wp2_with fail
      refine (in_some _ _ _ _ _).mono ?_
      rintro e w3 ⟨rfl, rfl⟩
      have hinv3 : Hid (MadeInv w c l (i + 1) (.iface 42 (.pointer (some ⟨wr.heap.size, 0, none⟩))) (wr.drew.alloc (.cells #[.string l[i].1, .int .i64 l[i].2, .iface te ye] 47))) := Lib.hid ⟨by
        rw [take_rev l i hlt]
        exact chain_cons (w := wr.drew) _ _ (hinv.out.1.on (Below.refl _ _).drew), hinv.out.2.drew.trans ((below_new wr.drew _).mono hinv.out.2.size)⟩
      clear hinv
      go_wp2
      go_roundg (l.length - (i + 1))
      case measure => omega
      case rel => exact ⟨i + 1, by omega, rfl, by go_num, hinv3⟩
    · have hil : i = l.length := by omega
      have HV : Hid (Chain wr (.iface 22 (.int .i64 c)) l.reverse u5 ∧ Below w.heap.size w wr) := Lib.hid (by have := hinv.out; unfold MadeInv at this; rw [hil, List.take_length] at this; exact this)
      clear hil hinv
      go_wp2
      go_ret
      exact ⟨_, rfl, HV.out.1, HV.out.2⟩

set_option maxRecDepth 100000 in
set_option maxHeartbeats 4000000 in
theorem made_none (v : Value) (l : List (ByteArray × Int)) (w : World) (hs : StepsAt w v l) (hlen : l.length ≤ 200) :
    Calls Tryd.prog 11 #[.int .i64 0, v] w fun e w' => e = .returned .nilIface ∧ Below w.heap.size w w' := by
  have HS := Lib.hid hs
  obtain ⟨ao, cap, rfl, hl, hx, hcell⟩ := hs
  clear hx hcell hl
  go_enter Tryd.func11, Tryd.ntmps11
  go_wp2
  go_loopg [5, 6] l.length (fun k s5 s6 wr => s5 = .nilIface ∧ ∃ i : Nat, i ≤ l.length ∧ k = l.length - i ∧ s6 = .int .i64 i ∧ Hid (Below w.heap.size w wr))
  case atStart => exact ⟨rfl, 0, Nat.zero_le _, rfl, rfl, Lib.hid (Below.refl _ _)⟩
  case round =>
    obtain ⟨rfl, i, hi, rfl, rfl, hinv⟩ := hrel
    by_cases hlt : i < l.length
    · obtain ⟨ao', cap', hv, _, hx, hc⟩ := HS.out.on hinv.out
      cases hv
      obtain ⟨b, off, rfl, hblt, h0, h1⟩ := hc i hlt
      clear hc hx
      go_wp2
      go_still_tail 11, (by kernel_rfl)
      go_wp2_with fail
      refine (in_nil _ _ _).mono ?_
      rintro e w3 ⟨rfl, rfl⟩
      go_wp2
      go_roundg (l.length - (i + 1))
      case measure => omega
      case rel => exact ⟨rfl, i + 1, by omega, rfl, by go_num, Lib.hid hinv.out.drew⟩
    · go_wp2
      go_ret
      exact ⟨rfl, hinv.out⟩
end Go.Proofs.YtcdjiejpccakaaaDoor
