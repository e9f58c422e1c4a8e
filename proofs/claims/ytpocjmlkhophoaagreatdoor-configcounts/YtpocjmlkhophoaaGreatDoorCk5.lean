/- config.fault, checkList and the checks of the four lists: the first error, as the chapter numbers them; memory that was there stands. -/
import Derived.Test.YtpocjmlkhophoaaGreatDoorCk4
namespace Go.Proofs.YtpocjmlkhophoaaGreatDoor
open Go.RowKit Go.Extern.Stop Go.Stop Go.Extern

theorem cfault_any (n : Int) (t : TypeId) (v : Value) (w : World) : Calls Tryz.prog 106 #[.int .i64 n, .iface t v] w fun e w' => e = .returned (.iface 145 (.pointer (some ⟨w.heap.size, 0, none⟩))) ∧ w' = w.alloc (.cells #[.string sConfig, .int .i64 n, .iface t v] 148) := by
  go_enter Tryz.func106, Tryz.ntmps106
  go_wp2_with fail
  refine (in_some _ _ _ _ _).mono ?_
  rintro e w' ⟨rfl, rfl⟩
  go_wp2
  go_ret
  exact ⟨rfl, rfl⟩
theorem chain_one (w : World) (s : ByteArray) (n c : Int) : Chain (w.alloc (.cells #[.string s, .int .i64 n, .iface 32 (.int .i64 c)] 148)) (.iface 32 (.int .i64 c)) [(s, n)] (.iface 145 (.pointer (some ⟨w.heap.size, 0, none⟩))) :=
  ⟨w.heap.size, _, rfl, by simp, by simp, by simp, by simp, rfl⟩
theorem chain_two (w : World) (s p : ByteArray) (n m c : Int) :
    Chain ((w.alloc (.cells #[.string p, .int .i64 m, .iface 32 (.int .i64 c)] 148)).alloc (.cells #[.string s, .int .i64 n, .iface 145 (.pointer (some ⟨w.heap.size, 0, none⟩))] 148)) (.iface 32 (.int .i64 c)) [(s, n), (p, m)] (.iface 145 (.pointer (some ⟨w.heap.size + 1, 0, none⟩))) := by
  refine ⟨w.heap.size + 1, _, rfl, by simp, by simp, by simp, by simp, w.heap.size, _, rfl, by simp; omega, ?_, ?_, ?_, rfl⟩
  · rw [World.cell?_alloc_lt _ _ ⟨w.heap.size, 0, none⟩ (by simp)]; simp
  · rw [World.cell?_alloc_lt _ _ ⟨w.heap.size, 1, none⟩ (by simp)]; simp
  · rw [World.cell?_alloc_lt _ _ ⟨w.heap.size, 2, none⟩ (by simp)]; simp
/-- What a check answers. -/
def CheckIs (w : World) (r : Res) (e : Ending) (w' : World) : Prop := ∃ v, e = .returned v ∧ ErrIs w' r v ∧ Below w.heap.size w w'
theorem errIs_ok {w : World} {r : Res} (h : r = okR) : ErrIs w r .nilIface := by subst h; rfl
theorem errIs_bad {w : World} {l : List (ByteArray × Int)} {c : Int} {v : Value} (hc : c ≠ 0) (h : Chain w (.iface 32 (.int .i64 c)) l v) : ErrIs w (l, c) v := by
  unfold ErrIs
  rw [if_neg hc]
  exact h
theorem listR_long {number most : Int} {n : Nat} {f : Nat → Bool} (h : most < n) : listR number most n f = ([(sConfig, number)], 3) := if_pos h
theorem listR_some {number most : Int} {n i : Nat} {f : Nat → Bool} (h : (n : Int) ≤ most) (hf : firstFrom f 0 n = some i) : listR number most n f = ([(sConfig, number), (sItem, (i : Int))], 1) := by
  unfold listR
  rw [if_neg (Int.not_lt.2 h), hf]
theorem listR_none {number most : Int} {n : Nat} {f : Nat → Bool} (h : (n : Int) ≤ most) (hf : firstFrom f 0 n = none) : listR number most n f = okR := by
  unfold listR
  rw [if_neg (Int.not_lt.2 h), hf]
theorem first_yes {f : Nat → Bool} {i k : Nat} (h : f i = true) : firstFrom f i (k + 1) = firstFrom f (i + 1) k := by simp [firstFrom, h]
theorem first_no {f : Nat → Bool} {i k : Nat} (h : f i = false) : firstFrom f i (k + 1) = some i := by simp [firstFrom, h]
theorem twoBelow (w : World) (o p : Obj) : Below w.heap.size w ((w.alloc o).alloc p) := (below_new w o).trans ((below_new (w.alloc o) p).mono (below_new w o).size)

set_option maxRecDepth 100000 in
set_option maxHeartbeats 4000000 in
theorem list108 (number most : Int) (n : Nat) (x : Value) (p : Nat → Bool) (w : World) (hn : n ≤ 300) (H : ∀ i < n, ∀ w', Below w.heap.size w w' → Calls Tryz.prog 108 #[.int .i64 (i : Int), x] w' fun e w'' => e = .returned (.bool (p i)) ∧ Below w'.heap.size w' w'') :
    Calls Tryz.prog 107 #[.int .i64 number, .int .i64 (n : Int), .int .i64 most, .func (.func 108) #[] #[x]] w (CheckIs w (listR number most n p)) := by
  have HH := Lib.hid H
  clear H
  by_cases hm : most < n
  · have E := Lib.hid (listR_long (number := number) (f := p) hm)
    go_enter Tryz.func107, Tryz.ntmps107
    go_wp2_with fail
    refine (cfault_any _ _ _ _).mono ?_
    rintro e w' ⟨rfl, rfl⟩
    go_wp2
    go_ret
    rw [E.out]
    exact ⟨_, rfl, errIs_bad (by decide) (chain_one _ _ _ _), below_new _ _⟩
  · have HM := Lib.hid (Int.not_lt.1 hm)
    go_enter Tryz.func107, Tryz.ntmps107
    go_wp2
    go_loopg [17] n (fun k s wr => ∃ i : Nat, i ≤ n ∧ k = n - i ∧ s = .int .i64 i ∧ Hid (firstFrom p i (n - i) = firstFrom p 0 n ∧ Below w.heap.size w wr))
    case atStart => exact ⟨0, Nat.zero_le _, rfl, rfl, Lib.hid ⟨rfl, Below.refl _ _⟩⟩
    case round =>
      obtain ⟨i, hi, rfl, rfl, hinv⟩ := hrel
      by_cases hlt : i < n
      · rcases Bool.eq_false_or_eq_true (p i) with h0 | h0
        · go_wp2_with fail
          refine (HH.out i hlt _ hinv.out.2).mono ?_
          rintro e w2 ⟨rfl, hb⟩
          rw [h0]
          have HI : Hid (firstFrom p (i + 1) (n - (i + 1)) = firstFrom p 0 n ∧ Below w.heap.size w w2) := Lib.hid ⟨by rw [← hinv.out.1, show n - i = (n - (i + 1)) + 1 by omega, first_yes h0], hinv.out.2.trans (hb.mono hinv.out.2.size)⟩
          clear hb
          go_wp2
          go_roundg (n - (i + 1))
          case measure => omega
          case rel => exact ⟨i + 1, by omega, rfl, by go_num, HI⟩
        · go_wp2_with fail
          refine (HH.out i hlt _ hinv.out.2).mono ?_
          rintro e w2 ⟨rfl, hb⟩
          rw [h0]
          have HB := Lib.hid (hinv.out.2.trans (hb.mono hinv.out.2.size))
          have E := Lib.hid (listR_some (number := number) HM.out (show firstFrom p 0 n = some i by rw [← hinv.out.1, show n - i = (n - (i + 1)) + 1 by omega, first_no h0]))
          clear hb
          go_wp2_with fail
          refine (in_some _ _ _ _ _).mono ?_
          rintro e w3 ⟨rfl, rfl⟩
          go_wp2_with fail
          refine (cfault_any _ _ _ _).mono ?_
          rintro e w4 ⟨rfl, rfl⟩
          go_wp2
          go_ret
          rw [E.out]
          refine ⟨_, rfl, errIs_bad (by decide) ?_, HB.out.trans ((twoBelow _ _ _).mono HB.out.size)⟩
          simpa [sItem] using chain_two w2 sConfig sItem number i 1
      · have E := Lib.hid (listR_none (number := number) HM.out (show firstFrom p 0 n = none by rw [← hinv.out.1, show n - i = 0 by omega]; rfl))
        go_wp2
        go_ret
        rw [E.out]
        exact ⟨_, rfl, errIs_ok rfl, hinv.out.2⟩

set_option maxRecDepth 100000 in
set_option maxHeartbeats 4000000 in
theorem list110 (number most : Int) (n : Nat) (x : Value) (p : Nat → Bool) (w : World) (hn : n ≤ 300) (H : ∀ i < n, ∀ w', Below w.heap.size w w' → Calls Tryz.prog 110 #[.int .i64 (i : Int), x] w' fun e w'' => e = .returned (.bool (p i)) ∧ Below w'.heap.size w' w'') :
    Calls Tryz.prog 107 #[.int .i64 number, .int .i64 (n : Int), .int .i64 most, .func (.func 110) #[] #[x]] w (CheckIs w (listR number most n p)) := by
  have HH := Lib.hid H
  clear H
  by_cases hm : most < n
  · have E := Lib.hid (listR_long (number := number) (f := p) hm)
    go_enter Tryz.func107, Tryz.ntmps107
    go_wp2_with fail
    refine (cfault_any _ _ _ _).mono ?_
    rintro e w' ⟨rfl, rfl⟩
    go_wp2
    go_ret
    rw [E.out]
    exact ⟨_, rfl, errIs_bad (by decide) (chain_one _ _ _ _), below_new _ _⟩
  · have HM := Lib.hid (Int.not_lt.1 hm)
    go_enter Tryz.func107, Tryz.ntmps107
    go_wp2
    go_loopg [17] n (fun k s wr => ∃ i : Nat, i ≤ n ∧ k = n - i ∧ s = .int .i64 i ∧ Hid (firstFrom p i (n - i) = firstFrom p 0 n ∧ Below w.heap.size w wr))
    case atStart => exact ⟨0, Nat.zero_le _, rfl, rfl, Lib.hid ⟨rfl, Below.refl _ _⟩⟩
    case round =>
      obtain ⟨i, hi, rfl, rfl, hinv⟩ := hrel
      by_cases hlt : i < n
      · rcases Bool.eq_false_or_eq_true (p i) with h0 | h0
        · go_wp2_with fail
          refine (HH.out i hlt _ hinv.out.2).mono ?_
          rintro e w2 ⟨rfl, hb⟩
          rw [h0]
          have HI : Hid (firstFrom p (i + 1) (n - (i + 1)) = firstFrom p 0 n ∧ Below w.heap.size w w2) := Lib.hid ⟨by rw [← hinv.out.1, show n - i = (n - (i + 1)) + 1 by omega, first_yes h0], hinv.out.2.trans (hb.mono hinv.out.2.size)⟩
          clear hb
          go_wp2
          go_roundg (n - (i + 1))
          case measure => omega
          case rel => exact ⟨i + 1, by omega, rfl, by go_num, HI⟩
        · go_wp2_with fail
          refine (HH.out i hlt _ hinv.out.2).mono ?_
          rintro e w2 ⟨rfl, hb⟩
          rw [h0]
          have HB := Lib.hid (hinv.out.2.trans (hb.mono hinv.out.2.size))
          have E := Lib.hid (listR_some (number := number) HM.out (show firstFrom p 0 n = some i by rw [← hinv.out.1, show n - i = (n - (i + 1)) + 1 by omega, first_no h0]))
          clear hb
          go_wp2_with fail
          refine (in_some _ _ _ _ _).mono ?_
          rintro e w3 ⟨rfl, rfl⟩
          go_wp2_with fail
          refine (cfault_any _ _ _ _).mono ?_
          rintro e w4 ⟨rfl, rfl⟩
          go_wp2
          go_ret
          rw [E.out]
          refine ⟨_, rfl, errIs_bad (by decide) ?_, HB.out.trans ((twoBelow _ _ _).mono HB.out.size)⟩
          simpa [sItem] using chain_two w2 sConfig sItem number i 1
      · have E := Lib.hid (listR_none (number := number) HM.out (show firstFrom p 0 n = none by rw [← hinv.out.1, show n - i = 0 by omega]; rfl))
        go_wp2
        go_ret
        rw [E.out]
        exact ⟨_, rfl, errIs_ok rfl, hinv.out.2⟩

set_option maxRecDepth 100000 in
set_option maxHeartbeats 4000000 in
theorem list112 (number most : Int) (n : Nat) (x : Value) (p : Nat → Bool) (w : World) (hn : n ≤ 300) (H : ∀ i < n, ∀ w', Below w.heap.size w w' → Calls Tryz.prog 112 #[.int .i64 (i : Int), x] w' fun e w'' => e = .returned (.bool (p i)) ∧ Below w'.heap.size w' w'') :
    Calls Tryz.prog 107 #[.int .i64 number, .int .i64 (n : Int), .int .i64 most, .func (.func 112) #[] #[x]] w (CheckIs w (listR number most n p)) := by
  have HH := Lib.hid H
  clear H
  by_cases hm : most < n
  · have E := Lib.hid (listR_long (number := number) (f := p) hm)
    go_enter Tryz.func107, Tryz.ntmps107
    go_wp2_with fail
    refine (cfault_any _ _ _ _).mono ?_
    rintro e w' ⟨rfl, rfl⟩
    go_wp2
    go_ret
    rw [E.out]
    exact ⟨_, rfl, errIs_bad (by decide) (chain_one _ _ _ _), below_new _ _⟩
  · have HM := Lib.hid (Int.not_lt.1 hm)
    go_enter Tryz.func107, Tryz.ntmps107
    go_wp2
    go_loopg [17] n (fun k s wr => ∃ i : Nat, i ≤ n ∧ k = n - i ∧ s = .int .i64 i ∧ Hid (firstFrom p i (n - i) = firstFrom p 0 n ∧ Below w.heap.size w wr))
    case atStart => exact ⟨0, Nat.zero_le _, rfl, rfl, Lib.hid ⟨rfl, Below.refl _ _⟩⟩
    case round =>
      obtain ⟨i, hi, rfl, rfl, hinv⟩ := hrel
      by_cases hlt : i < n
      · rcases Bool.eq_false_or_eq_true (p i) with h0 | h0
        · go_wp2_with fail
          refine (HH.out i hlt _ hinv.out.2).mono ?_
          rintro e w2 ⟨rfl, hb⟩
          rw [h0]
          have HI : Hid (firstFrom p (i + 1) (n - (i + 1)) = firstFrom p 0 n ∧ Below w.heap.size w w2) := Lib.hid ⟨by rw [← hinv.out.1, show n - i = (n - (i + 1)) + 1 by omega, first_yes h0], hinv.out.2.trans (hb.mono hinv.out.2.size)⟩
          clear hb
          go_wp2
          go_roundg (n - (i + 1))
          case measure => omega
          case rel => exact ⟨i + 1, by omega, rfl, by go_num, HI⟩
        · go_wp2_with fail
          refine (HH.out i hlt _ hinv.out.2).mono ?_
          rintro e w2 ⟨rfl, hb⟩
          rw [h0]
          have HB := Lib.hid (hinv.out.2.trans (hb.mono hinv.out.2.size))
          have E := Lib.hid (listR_some (number := number) HM.out (show firstFrom p 0 n = some i by rw [← hinv.out.1, show n - i = (n - (i + 1)) + 1 by omega, first_no h0]))
          clear hb
          go_wp2_with fail
          refine (in_some _ _ _ _ _).mono ?_
          rintro e w3 ⟨rfl, rfl⟩
          go_wp2_with fail
          refine (cfault_any _ _ _ _).mono ?_
          rintro e w4 ⟨rfl, rfl⟩
          go_wp2
          go_ret
          rw [E.out]
          refine ⟨_, rfl, errIs_bad (by decide) ?_, HB.out.trans ((twoBelow _ _ _).mono HB.out.size)⟩
          simpa [sItem] using chain_two w2 sConfig sItem number i 1
      · have E := Lib.hid (listR_none (number := number) HM.out (show firstFrom p 0 n = none by rw [← hinv.out.1, show n - i = 0 by omega]; rfl))
        go_wp2
        go_ret
        rw [E.out]
        exact ⟨_, rfl, errIs_ok rfl, hinv.out.2⟩

set_option maxRecDepth 100000 in
set_option maxHeartbeats 4000000 in
theorem list114 (number most : Int) (n : Nat) (x : Value) (p : Nat → Bool) (w : World) (hn : n ≤ 300) (H : ∀ i < n, ∀ w', Below w.heap.size w w' → Calls Tryz.prog 114 #[.int .i64 (i : Int), x] w' fun e w'' => e = .returned (.bool (p i)) ∧ Below w'.heap.size w' w'') :
    Calls Tryz.prog 107 #[.int .i64 number, .int .i64 (n : Int), .int .i64 most, .func (.func 114) #[] #[x]] w (CheckIs w (listR number most n p)) := by
  have HH := Lib.hid H
  clear H
  by_cases hm : most < n
  · have E := Lib.hid (listR_long (number := number) (f := p) hm)
    go_enter Tryz.func107, Tryz.ntmps107
    go_wp2_with fail
    refine (cfault_any _ _ _ _).mono ?_
    rintro e w' ⟨rfl, rfl⟩
    go_wp2
    go_ret
    rw [E.out]
    exact ⟨_, rfl, errIs_bad (by decide) (chain_one _ _ _ _), below_new _ _⟩
  · have HM := Lib.hid (Int.not_lt.1 hm)
    go_enter Tryz.func107, Tryz.ntmps107
    go_wp2
    go_loopg [17] n (fun k s wr => ∃ i : Nat, i ≤ n ∧ k = n - i ∧ s = .int .i64 i ∧ Hid (firstFrom p i (n - i) = firstFrom p 0 n ∧ Below w.heap.size w wr))
    case atStart => exact ⟨0, Nat.zero_le _, rfl, rfl, Lib.hid ⟨rfl, Below.refl _ _⟩⟩
    case round =>
      obtain ⟨i, hi, rfl, rfl, hinv⟩ := hrel
      by_cases hlt : i < n
      · rcases Bool.eq_false_or_eq_true (p i) with h0 | h0
        · go_wp2_with fail
          refine (HH.out i hlt _ hinv.out.2).mono ?_
          rintro e w2 ⟨rfl, hb⟩
          rw [h0]
          have HI : Hid (firstFrom p (i + 1) (n - (i + 1)) = firstFrom p 0 n ∧ Below w.heap.size w w2) := Lib.hid ⟨by rw [← hinv.out.1, show n - i = (n - (i + 1)) + 1 by omega, first_yes h0], hinv.out.2.trans (hb.mono hinv.out.2.size)⟩
          clear hb
          go_wp2
          go_roundg (n - (i + 1))
          case measure => omega
          case rel => exact ⟨i + 1, by omega, rfl, by go_num, HI⟩
        · go_wp2_with fail
          refine (HH.out i hlt _ hinv.out.2).mono ?_
          rintro e w2 ⟨rfl, hb⟩
          rw [h0]
          have HB := Lib.hid (hinv.out.2.trans (hb.mono hinv.out.2.size))
          have E := Lib.hid (listR_some (number := number) HM.out (show firstFrom p 0 n = some i by rw [← hinv.out.1, show n - i = (n - (i + 1)) + 1 by omega, first_no h0]))
          clear hb
          go_wp2_with fail
          refine (in_some _ _ _ _ _).mono ?_
          rintro e w3 ⟨rfl, rfl⟩
          go_wp2_with fail
          refine (cfault_any _ _ _ _).mono ?_
          rintro e w4 ⟨rfl, rfl⟩
          go_wp2
          go_ret
          rw [E.out]
          refine ⟨_, rfl, errIs_bad (by decide) ?_, HB.out.trans ((twoBelow _ _ _).mono HB.out.size)⟩
          simpa [sItem] using chain_two w2 sConfig sItem number i 1
      · have E := Lib.hid (listR_none (number := number) HM.out (show firstFrom p 0 n = none by rw [← hinv.out.1, show n - i = 0 by omega]; rfl))
        go_wp2
        go_ret
        rw [E.out]
        exact ⟨_, rfl, errIs_ok rfl, hinv.out.2⟩

set_option maxRecDepth 100000 in
set_option maxHeartbeats 2000000 in
theorem polls_any (c : Cfg) (sl po pt ct : Value) (w : World) (hl : ListsAt w c sl po pt ct) (hf : FewC c) : Calls Tryz.prog 66 #[cfgV c sl po pt ct] w (CheckIs w (pollsR c)) := by
  have HB := Lib.hid (below_new w (.cells #[.int .i64 c.own, .int .i64 c.master, .bool c.unsol, .int .i64 c.reply, .int .i64 c.silence, .int .i64 c.retries, .int .i64 c.offline, .int .i64 c.select, .int .i64 c.confirm, .int .i64 c.frag, .int .i64 c.r0, .int .i64 c.r1, .int .i64 c.r2, sl, po, pt, ct] 28))
  have HX := Lib.hid (cfgBox_new w c sl po pt ct)
  have HL := Lib.hid (hl.on HB.out)
  have HF := Lib.hid hf
  obtain ⟨a1, q1, rfl, _⟩ := hl.sl.form
  obtain ⟨a2, q2, rfl, _⟩ := hl.po.form
  obtain ⟨a3, q3, rfl, _⟩ := hl.pt.form
  obtain ⟨a4, q4, rfl, _⟩ := hl.ct.form
  clear hl hf
  unfold cfgV
  go_enter Tryz.func66, Tryz.ntmps66
  go_wp2_with fail
  refine (list110 12 _ c.polls.length _ _ _ HF.out.2.1 (fun i hi w' hb => pollcl_any c i _ _ _ _ _ w' (HX.out.on hb) (HL.out.on hb) HF.out hi)).mono ?_
  rintro e w1 ⟨v, rfl, he, hb⟩
  have HE := Lib.hid he
  have HB1 := Lib.hid (HB.out.trans (hb.mono HB.out.size))
  clear he hb
  go_wp2
  go_ret
  exact ⟨_, rfl, HE.out, HB1.out⟩

set_option maxRecDepth 100000 in
set_option maxHeartbeats 2000000 in
theorem points_any (c : Cfg) (sl po pt ct : Value) (w : World) (hl : ListsAt w c sl po pt ct) (hf : FewC c) (hq : ∀ q ∈ c.polls, 0 ≤ q.count ∧ q.count ≤ 1000) : Calls Tryz.prog 67 #[cfgV c sl po pt ct] w (CheckIs w (pointsR c)) := by
  have HB := Lib.hid (below_new w (.cells #[.int .i64 c.own, .int .i64 c.master, .bool c.unsol, .int .i64 c.reply, .int .i64 c.silence, .int .i64 c.retries, .int .i64 c.offline, .int .i64 c.select, .int .i64 c.confirm, .int .i64 c.frag, .int .i64 c.r0, .int .i64 c.r1, .int .i64 c.r2, sl, po, pt, ct] 28))
  have HX := Lib.hid (cfgBox_new w c sl po pt ct)
  have HL := Lib.hid (hl.on HB.out)
  have HF := Lib.hid hf
  have HQ := Lib.hid hq
  clear hq
  obtain ⟨a1, q1, rfl, _⟩ := hl.sl.form
  obtain ⟨a2, q2, rfl, _⟩ := hl.po.form
  obtain ⟨a3, q3, rfl, _⟩ := hl.pt.form
  obtain ⟨a4, q4, rfl, _⟩ := hl.ct.form
  clear hl hf
  unfold cfgV
  go_enter Tryz.func67, Tryz.ntmps67
  go_wp2_with fail
  refine (list112 13 _ c.points.length _ _ _ HF.out.2.2.1 (fun i hi w' hb => pointcl_any c i _ _ _ _ _ w' (HX.out.on hb) (HL.out.on hb) HF.out hi HQ.out)).mono ?_
  rintro e w1 ⟨v, rfl, he, hb⟩
  have HE := Lib.hid he
  have HB1 := Lib.hid (HB.out.trans (hb.mono HB.out.size))
  clear he hb
  go_wp2
  go_ret
  exact ⟨_, rfl, HE.out, HB1.out⟩

set_option maxRecDepth 100000 in
set_option maxHeartbeats 2000000 in
theorem ctls_any (c : Cfg) (sl po pt ct : Value) (w : World) (hl : ListsAt w c sl po pt ct) (hf : FewC c) : Calls Tryz.prog 68 #[cfgV c sl po pt ct] w (CheckIs w (ctlsR c)) := by
  have HB := Lib.hid (below_new w (.cells #[.int .i64 c.own, .int .i64 c.master, .bool c.unsol, .int .i64 c.reply, .int .i64 c.silence, .int .i64 c.retries, .int .i64 c.offline, .int .i64 c.select, .int .i64 c.confirm, .int .i64 c.frag, .int .i64 c.r0, .int .i64 c.r1, .int .i64 c.r2, sl, po, pt, ct] 28))
  have HX := Lib.hid (cfgBox_new w c sl po pt ct)
  have HL := Lib.hid (hl.on HB.out)
  have HF := Lib.hid hf
  obtain ⟨a1, q1, rfl, _⟩ := hl.sl.form
  obtain ⟨a2, q2, rfl, _⟩ := hl.po.form
  obtain ⟨a3, q3, rfl, _⟩ := hl.pt.form
  obtain ⟨a4, q4, rfl, _⟩ := hl.ct.form
  clear hl hf
  unfold cfgV
  go_enter Tryz.func68, Tryz.ntmps68
  go_wp2_with fail
  refine (list114 14 _ c.ctls.length _ _ _ HF.out.2.2.2 (fun i hi w' hb => ctlcl_any c i _ _ _ _ _ w' (HX.out.on hb) (HL.out.on hb) HF.out hi)).mono ?_
  rintro e w1 ⟨v, rfl, he, hb⟩
  have HE := Lib.hid he
  have HB1 := Lib.hid (HB.out.trans (hb.mono HB.out.size))
  clear he hb
  go_wp2
  go_ret
  exact ⟨_, rfl, HE.out, HB1.out⟩

set_option maxRecDepth 100000 in
set_option maxHeartbeats 2000000 in
theorem slaves_any (c : Cfg) (sl po pt ct : Value) (w : World) (hl : ListsAt w c sl po pt ct) (hf : FewC c) : Calls Tryz.prog 65 #[cfgV c sl po pt ct] w (CheckIs w (slavesR c)) := by
  have HB := Lib.hid (below_new w (.cells #[.int .i64 c.own, .int .i64 c.master, .bool c.unsol, .int .i64 c.reply, .int .i64 c.silence, .int .i64 c.retries, .int .i64 c.offline, .int .i64 c.select, .int .i64 c.confirm, .int .i64 c.frag, .int .i64 c.r0, .int .i64 c.r1, .int .i64 c.r2, sl, po, pt, ct] 28))
  have HX := Lib.hid (cfgBox_new w c sl po pt ct)
  have HL := Lib.hid (hl.on HB.out)
  have HF := Lib.hid hf
  obtain ⟨a1, q1, rfl, _⟩ := hl.sl.form
  obtain ⟨a2, q2, rfl, _⟩ := hl.po.form
  obtain ⟨a3, q3, rfl, _⟩ := hl.pt.form
  obtain ⟨a4, q4, rfl, _⟩ := hl.ct.form
  clear hl hf
  unfold cfgV
  by_cases h0 : c.slaves.length = 0
  · have E := Lib.hid (show slavesR c = ([(sConfig, 11)], 1) from if_pos h0)
    have hb : ((c.slaves.length : Int) == 0) = true := by simp [h0]
    have HZ := Lib.hid h0
    clear h0
    go_enter Tryz.func65, Tryz.ntmps65
    go_wp2_with fail
    refine (cfault_any _ _ _ _).mono ?_
    rintro e w1 ⟨rfl, rfl⟩
    go_wp2
    go_ret
    rw [E.out]
    refine ⟨.iface 145 (.pointer (some ⟨w.heap.size + 1, 0, none⟩)), rfl, errIs_bad (by decide) ?_, twoBelow _ _ _⟩
    simpa using chain_one (w.alloc (.cells #[.int .i64 c.own, .int .i64 c.master, .bool c.unsol, .int .i64 c.reply, .int .i64 c.silence, .int .i64 c.retries, .int .i64 c.offline, .int .i64 c.select, .int .i64 c.confirm, .int .i64 c.frag, .int .i64 c.r0, .int .i64 c.r1, .int .i64 c.r2, .slice a1 c.slaves.length q1, .slice a2 c.polls.length q2, .slice a3 c.points.length q3, .slice a4 c.ctls.length q4] 28)) sConfig 11 1
  · have E := Lib.hid (show slavesR c = listR 11 8 c.slaves.length (slaveN c.slaves) from if_neg h0)
    have hb : ((c.slaves.length : Int) == 0) = false := by simp; intro e; exact h0 (by rw [e]; rfl)
    have HZ := Lib.hid h0
    clear h0
    go_enter Tryz.func65, Tryz.ntmps65
    go_wp2_with fail
    refine (list108 11 _ c.slaves.length _ _ _ HF.out.1 (fun i hi w' hb => slavecl_any c i _ _ _ _ _ w' (HX.out.on hb) (HL.out.on hb) HF.out hi)).mono ?_
    rintro e w1 ⟨v, rfl, he, hb⟩
    have HE := Lib.hid he
    have HB1 := Lib.hid (HB.out.trans (hb.mono HB.out.size))
    clear he hb
    go_wp2
    go_ret
    rw [E.out]
    exact ⟨_, rfl, HE.out, HB1.out⟩

end Go.Proofs.YtpocjmlkhophoaaGreatDoor
