/- yardlaw1.first answers true: the chapter's examples; all older memory stands. -/
import Derived.Test.YtcdjiejpccakaaaDoorText
namespace Go.Proofs.YtcdjiejpccakaaaDoor
open Go.RowKit Go.Extern.Stop Go.Stop Go.Extern

theorem itoa2 : Lib.itoa 2 = [50] := by simp [Lib.itoa, Lib.decDigits]
theorem itoa3 : Lib.itoa 3 = [51] := by simp [Lib.itoa, Lib.decDigits]
def sWire : ByteArray := ⟨#[119, 105, 114, 101]⟩
def sConfig : ByteArray := ⟨#[99, 111, 110, 102, 105, 103]⟩
theorem first_text : (⟨(pathText [(sConfig, 2), (sWire, 3)] ++ (codeText 2).data.toList).toArray⟩ : ByteArray) = ⟨#[99, 111, 110, 102, 105, 103, 32, 50, 58, 32, 119, 105, 114, 101, 32, 51, 58, 32, 99, 111, 100, 101, 32, 50]⟩ := by
  unfold pathText pathText pathText place codeText
  rw [itoa2, itoa3]
  decide +kernel
theorem first_short : Short [(sConfig, 2), (sWire, 3)] := by
  have e : pathText [(sConfig, 2), (sWire, 3)] = [99, 111, 110, 102, 105, 103, 32, 50, 58, 32, 119, 105, 114, 101, 32, 51, 58, 32] := by
    unfold pathText pathText pathText place
    rw [itoa2, itoa3]
    decide +kernel
  refine ⟨by rw [e]; decide, by decide, ?_⟩
  intro x hx
  simp at hx
  rcases hx with rfl | rfl
  · exact ⟨by decide, by unfold IsInt; omega⟩
  · exact ⟨by decide, by unfold IsInt; omega⟩

theorem chain2 (w : World) (s p : ByteArray) (n m c : Int) :
    Chain ((w.alloc (.cells #[.string p, .int .i64 m, .iface 22 (.int .i64 c)] 47)).alloc (.cells #[.string s, .int .i64 n, .iface 42 (.pointer (some ⟨w.heap.size, 0, none⟩))] 47)) (.iface 22 (.int .i64 c)) [(s, n), (p, m)] (.iface 42 (.pointer (some ⟨w.heap.size + 1, 0, none⟩))) := by
  refine ⟨w.heap.size + 1, _, rfl, by simp, by simp, by simp, by simp, w.heap.size, _, rfl, by simp; omega, ?_, ?_, ?_, rfl⟩
  · rw [World.cell?_alloc_lt _ _ ⟨w.heap.size, 0, none⟩ (by simp)]; simp
  · rw [World.cell?_alloc_lt _ _ ⟨w.heap.size, 1, none⟩ (by simp)]; simp
  · rw [World.cell?_alloc_lt _ _ ⟨w.heap.size, 2, none⟩ (by simp)]; simp

set_option maxRecDepth 100000 in
set_option maxHeartbeats 4000000 in
theorem first_any (w : World) (hg : Ready w) : Calls Tryd.prog 9 #[] w fun e w' => e = .returned (.bool true) ∧ Below w.heap.size w w' := by
  have HG := Lib.hid hg
  clear hg
  go_enter Tryd.func9, Tryd.ntmps9
  go_wp2_with fail
  refine (in_some _ _ _ _ _).mono ?_
  rintro e w1 ⟨rfl, rfl⟩
  go_wp2_with fail
  refine (in_some _ _ _ _ _).mono ?_
  rintro e w1 ⟨rfl, rfl⟩
  have HC : Hid (Chain _ _ _ _) := Lib.hid (chain2 w sConfig sWire 2 3 2)
  have HB : Hid (Below w.heap.size w _) := Lib.hid (two_belowW w (.cells #[.string sWire, .int .i64 3, .iface 22 (.int .i64 2)] 47) (.cells #[.string sConfig, .int .i64 2, .iface 42 (.pointer (some ⟨w.heap.size, 0, none⟩))] 47))
  go_wp2_with fail
  refine (of_nil _).mono ?_
  rintro e w3 ⟨rfl, hb⟩
  have HC3 := Lib.hid (HC.out.on hb)
  have HB3 := Lib.hid (HB.out.trans (hb.mono HB.out.size))
  clear hb HC HB
  go_wp2_with fail
  refine (of_code _ _ 2 _ (HG.out.on HB3.out).1 HC3.out).mono ?_
  rintro e w4 ⟨rfl, hb⟩
  have HC4 := Lib.hid (HC3.out.on hb)
  have HB4 := Lib.hid (HB3.out.trans (hb.mono HB3.out.size))
  clear hb HC3 HB3
  go_wp2_with fail
  refine (text_any _ _ 2 (by unfold IsInt; omega) _ (HG.out.on HB4.out) HC4.out first_short).mono ?_
  rintro e w5 ⟨rfl, hb⟩
  have HB5 := Lib.hid (HB4.out.trans (hb.mono HB4.out.size))
  clear hb HC4 HB4
  rw [first_text]
  go_wp2_with fail
  refine (in_nil _ _ _).mono ?_
  rintro e w6 ⟨rfl, rfl⟩
  go_wp2_with fail
  refine (fis_nil _ _).mono ?_
  rintro e w6 ⟨rfl, hb⟩
  have HB6 := Lib.hid (HB5.out.trans (hb.mono HB5.out.size))
  clear hb HB5
  go_wp2_with fail
  refine (fis_code [] _ 5 0 _ rfl).mono ?_
  rintro e w7 ⟨rfl, hb⟩
  have HB7 := Lib.hid (HB6.out.trans (hb.mono HB6.out.size))
  clear hb HB6
  go_wp2_with fail
  refine (text_nil _).mono ?_
  rintro e w8 ⟨rfl, rfl⟩
  go_wp2
  go_ret
  exact ⟨rfl, HB7.out⟩
end Go.Proofs.YtcdjiejpccakaaaDoor
