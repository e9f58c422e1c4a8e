/- yardlaw1.FailText answers true for every code and every list of steps; memory that was there stands. -/
import Derived.Test.YtcdjiejpccakaaaDoorMade
import Derived.Test.YtcdjiejpccakaaaDoorDecAll
namespace Go.Proofs.YtcdjiejpccakaaaDoor
open Go.RowKit Go.Extern.Stop Go.Stop Go.Extern

theorem fewSum_reverse : ∀ l : List (ByteArray × Int), fewSum l.reverse = fewSum l
  | [] => rfl
  | x :: l => by rw [List.reverse_cons, fewSum_append, fewSum_reverse l]; simp only [fewSum]; omega
/-- Few steps are short ones, the other way round too. -/
theorem short_rev {w : World} {v : Value} {l : List (ByteArray × Int)} (hs : StepsAt w v l) (h : fewB l = true) : Short l.reverse := by
  obtain ⟨⟨_, h1, hx⟩, h2, h3⟩ := short_of_few hs h
  obtain ⟨_, _, _, _, hy, _⟩ := hs
  have hm : ∀ x ∈ l.reverse, x.1.size ≤ 20000 ∧ IsInt x.2 := fun x hx' => by
    have := fewSum_mem (List.mem_reverse.1 hx')
    exact ⟨by omega, (hy x (List.mem_reverse.1 hx')).2⟩
  refine ⟨?_, by rw [List.length_reverse]; omega, fun x hx' => hx x (List.mem_reverse.1 hx')⟩
  have := pathText_le l.reverse hm
  rw [fewSum_reverse, List.length_reverse] at this
  omega
/-- The text of the first steps of a path. -/
def textTo (l : List (ByteArray × Int)) (k : Nat) : ByteArray := ⟨(pathText (l.take k)).toArray⟩
theorem textTo_size (l : List (ByteArray × Int)) (k : Nat) (h : Short l) : (textTo l k).size ≤ 1000000 := by
  unfold textTo
  rw [bsize]
  exact Nat.le_trans (pathText_take_le l k) h.1
theorem textTo_succ (l : List (ByteArray × Int)) (k : Nat) (h : k < l.length) : textTo l (k + 1) = textTo l k ++ (l[k].1 ++ ⟨#[32]⟩ ++ ⟨(Lib.itoa l[k].2).toArray⟩ ++ ⟨#[58, 32]⟩) := by
  unfold textTo
  rw [pathText_take_succ l k h]
  have e : (l[k].1 ++ ⟨#[32]⟩ ++ ⟨(Lib.itoa l[k].2).toArray⟩ ++ ⟨#[58, 32]⟩ : ByteArray) = ⟨(place l[k].1 l[k].2 ++ ⟨#[58, 32]⟩).data.toList.toArray⟩ := by
    apply ByteArray.ext
    simp only [Array.toArray_toList]
    rfl
  rw [e]
  exact (bytes_append _ _).symm

theorem z1 (x : ByteArray) : (x ++ ⟨#[32]⟩).size = x.size + 1 := ByteArray.size_append
theorem z2 (x : ByteArray) : (x ++ ⟨#[58, 32]⟩).size = x.size + 2 := ByteArray.size_append
theorem zi (x : ByteArray) (n : Int) : (x ++ ⟨(Lib.itoa n).toArray⟩).size = x.size + (Lib.itoa n).length := by rw [ByteArray.size_append, bsize (Lib.itoa n)]
/-- '+' of two strings that are not too long. -/
theorem concat (a b : ByteArray) (h : a.size + b.size ≤ 3000000) (w : World) : (Op.stringOp .add a b).run Tryd.prog w = .ok (.string (a ++ b)) w := by
  have h' : ¬ ((a.size + b.size : Nat) : Int) > IntKind.i64.max := by
    have : IntKind.i64.max = 9223372036854775807 := by decide
    rw [this]
    omega
  unfold Op.stringOp
  simp only [if_neg h']
  rfl

set_option maxRecDepth 100000 in
set_option maxHeartbeats 1000000 in
theorem textlaw_any (c : Int) (hc : IsInt c) (v : Value) (l : List (ByteArray × Int)) (w : World) (hs : StepsAt w v l) (hg : Ready w) :
    Calls Tryd.prog 4 #[.int .i64 c, v] w fun e w' => e = .returned (.bool true) ∧ Below w.heap.size w w' := by
  have HS := Lib.hid hs
  have HG := Lib.hid hg
  have HC := Lib.hid hc
  obtain ⟨ao, cap, rfl, hl, hx, hcell⟩ := hs
  clear hg hx hcell hl hc
  go_enter Tryd.func4, Tryd.ntmps4
  go_wp2_with fail
  refine (first_any _ HG.out).mono ?_
  rintro e w1 ⟨rfl, hb⟩
  have HB := Lib.hid hb
  clear hb
  cases hfew : fewB l with
  | false =>
    have HF := Lib.hid hfew
    clear hfew
    go_wp2_with fail
    refine (few_any _ l _ (HS.out.on HB.out)).mono ?_
    rintro e w2 ⟨rfl, rfl⟩
    rw [HF.out]
    go_wp2_with fail
    refine (first_any _ (HG.out.on HB.out)).mono ?_
    rintro e w2 ⟨rfl, hb⟩
    have HB2 := Lib.hid (HB.out.trans (hb.mono HB.out.size))
    clear hb
    go_wp2
    go_ret
    exact ⟨rfl, HB2.out⟩
  | true =>
    have HF := Lib.hid hfew
    clear hfew
    have hlen := (short_of_few HS.out HF.out).2.1
    have HR := Lib.hid (short_rev HS.out HF.out)
    go_wp2_with fail
    refine (few_any _ l _ (HS.out.on HB.out)).mono ?_
    rintro e w2 ⟨rfl, rfl⟩
    rw [HF.out]
    by_cases hc0 : c = 0
    · subst hc0
      go_wp2
      refine wp_loop_rounds 1 ?_
      rw [rounds_succ]
      go_wp2_with fail
      all_goals
        refine (first_any _ (HG.out.on HB.out)).mono ?_
        rintro e w3 ⟨rfl, hb⟩
        have HB3 : Hid (Below w.heap.size w w3) := Lib.hid (HB.out.trans (hb.mono HB.out.size))
        clear hb
        go_wp2_with fail
        refine (made_none _ l _ (HS.out.on HB3.out) hlen).mono ?_
        rintro e w4 ⟨rfl, hb⟩
        have HB4 : Hid (Below w.heap.size w w4) := Lib.hid (HB3.out.trans (hb.mono HB3.out.size))
        clear hb
        go_wp2_with fail
        refine (text_nil _).mono ?_
        rintro e w5 ⟨rfl, rfl⟩
        go_wp2
        go_ret
        exact ⟨rfl, HB4.out⟩
    · have hq : (c != 0) = true := by simpa using hc0
      go_wp2
      go_loopg [5, 6] l.length (fun k s5 s6 wr => ∃ j : Nat, j ≤ l.length ∧ k = j ∧ s6 = .int .i64 ((j : Int) - 1) ∧ s5 = .string (textTo l.reverse (l.length - j)) ∧ Hid (Below w.heap.size w wr))
      case atStart => exact ⟨l.length, Nat.le_refl _, rfl, rfl, by rw [Nat.sub_self]; rfl, HB⟩
      case round =>
        obtain ⟨_, hj, rfl, rfl, rfl, hbr⟩ := hrel
        cases gk with
        | zero =>
          have hts := textTo_size l.reverse l.length HR.out
          have hcs := codeText_size c HC.out
          have hil := Lib.itoa_length_le c HC.out.1 HC.out.2
          have HTX : Hid ((⟨(pathText l.reverse ++ (codeText c).data.toList).toArray⟩ : ByteArray) = textTo l.reverse l.length ++ codeText c) := Lib.hid (by
            unfold textTo
            rw [List.take_of_length_le (by rw [List.length_reverse]; exact Nat.le_refl _)]
            exact (bytes_append _ _).symm)
          rw [Nat.sub_zero]
          go_wp2_with fail
          refine (dec_any c HC.out _).mono ?_
          rintro e w2 ⟨rfl, hb⟩
          have HB2 : Hid (Below w.heap.size w w2) := Lib.hid (hbr.out.trans (hb.mono hbr.out.size))
          clear hb
          go_wp2_with fail
          refine (first_any _ (HG.out.on HB2.out)).mono ?_
          rintro e w3 ⟨rfl, hb⟩
          have HB3 : Hid (Below w.heap.size w w3) := Lib.hid (HB2.out.trans (hb.mono HB2.out.size))
          clear hb
          go_wp2_with fail
          refine (made_some c hc0 _ l _ (HS.out.on HB3.out) hlen).mono ?_
          rintro e w4 ⟨mv, rfl, hch, hb⟩
          have HB4 : Hid (Below w.heap.size w w4) := Lib.hid (HB3.out.trans (hb.mono HB3.out.size))
          have HCH := Lib.hid hch
          clear hb hch
          go_wp2_with fail
          refine (text_any l.reverse _ c HC.out _ (HG.out.on HB4.out) HCH.out HR.out).mono ?_
          rintro e w5 ⟨rfl, hb⟩
          have HB5 : Hid (Below w.heap.size w w5) := Lib.hid (HB4.out.trans (hb.mono HB4.out.size))
          clear hb
          rw [HTX.out]
          go_wp2
          go_ret
          exact ⟨ret_bool (beq_self_eq_true (textTo l.reverse l.length ++ codeText c).toList), HB5.out⟩
        | succ m =>
          rw [show (((m + 1 : Nat) : Int) - 1) = (m : Int) by omega]
          obtain ⟨ao', cap', hv, _, hx, hcc⟩ := HS.out.on hbr.out
          cases hv
          obtain ⟨b, off, rfl, hblt, h0, h1⟩ := hcc m (by omega)
          have hp := hx l[m] (List.getElem_mem (by omega))
          have HP := Lib.hid hp.2
          have hts := textTo_size l.reverse (l.length - (m + 1)) HR.out
          have hws := (HR.out.2.2 l[m] (List.mem_reverse.2 (List.getElem_mem (by omega)))).1
          have hil := Lib.itoa_length_le l[m].2 HP.out.1 HP.out.2
          have hm : m < l.length := by omega
          have a1 := concat l[m].1 ⟨#[32]⟩ (by show l[m].1.size + 1 ≤ 3000000; omega)
          have a2 := concat (l[m].1 ++ ⟨#[32]⟩) ⟨(Lib.itoa l[m].2).toArray⟩ (by rw [z1, bsize (Lib.itoa l[m].2)]; omega)
          have a3 := concat (l[m].1 ++ ⟨#[32]⟩ ++ ⟨(Lib.itoa l[m].2).toArray⟩) ⟨#[58, 32]⟩ (by rw [zi, z1]; show l[m].1.size + 1 + (Lib.itoa l[m].2).length + 2 ≤ 3000000; omega)
          have a4 := concat (textTo l.reverse (l.length - (m + 1))) (l[m].1 ++ ⟨#[32]⟩ ++ ⟨(Lib.itoa l[m].2).toArray⟩ ++ ⟨#[58, 32]⟩) (by rw [z2, zi, z1]; omega)
          clear hcc hx hp
          go_wp2
          go_region_held3 (fun w' => w'.cell? ⟨b, off + m * 2, none⟩ = some (.string l[m].1) ∧ w'.cell? ⟨b, off + m * 2 + 1, none⟩ = some (.int .i64 l[m].2))
            (first
              | go_keep
              | exact ⟨(hb.cell (p := ⟨b, off + m * 2, none⟩) hblt).trans h0, (hb.cell (p := ⟨b, off + m * 2 + 1, none⟩) hblt).trans h1⟩)
            ((go_at_call 15; refine (dec_any _ HP.out _).mono ?_; rintro e w' ⟨rfl, hb⟩))
          have HB2 : Hid (Below w.heap.size w w') := Lib.hid (hbr.out.drew.trans (hb.mono hbr.out.size))
          have hk : l.length - m = l.length - (m + 1) + 1 := by omega
          have hrl : l.length - (m + 1) < l.reverse.length := by rw [List.length_reverse]; omega
          have hre : l.reverse[l.length - (m + 1)] = l[m] := by
            rw [List.getElem_reverse]
            congr 1
            omega
          have HT : Hid (Value.string (textTo l.reverse (l.length - (m + 1)) ++ (l[m].1 ++ ⟨#[32]⟩ ++ ⟨(Lib.itoa l[m].2).toArray⟩ ++ ⟨#[58, 32]⟩)) = .string (textTo l.reverse (l.length - m))) := Lib.hid (by
            rw [hk, textTo_succ l.reverse _ hrl, hre])
          clear hb hk hrl hre
          go_wp2
          go_roundg m
          case measure => omega
          case rel => exact ⟨m, by omega, rfl, rfl, HT.out, HB2⟩
end Go.Proofs.YtcdjiejpccakaaaDoor
