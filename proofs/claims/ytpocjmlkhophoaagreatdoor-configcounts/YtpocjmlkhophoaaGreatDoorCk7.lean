/- config.Check: the first condition that does not hold, for every configuration with few elements; memory that was there stands. -/
import Derived.Test.YtpocjmlkhophoaaGreatDoorCk6
namespace Go.Proofs.YtpocjmlkhophoaaGreatDoor
open Go.RowKit Go.Extern.Stop Go.Stop Go.Extern

theorem first_all {f : Nat → Bool} : ∀ {k i : Nat}, firstFrom f i k = none → ∀ j, i ≤ j → j < i + k → f j = true
  | 0, i, _, j, h1, h2 => by omega
  | k + 1, i, h, j, h1, h2 => by
    rcases Bool.eq_false_or_eq_true (f i) with h0 | h0
    · rw [first_yes h0] at h
      rcases Nat.lt_or_ge i j with hij | hij
      · exact first_all h j hij (by omega)
      · have : i = j := by omega
        rw [← this]; exact h0
    · rw [first_no h0] at h; cases h
theorem listR_ok {number most : Int} {n : Nat} {f : Nat → Bool} (h : (listR number most n f).2 = 0) : (n : Int) ≤ most ∧ ∀ j < n, f j = true := by
  unfold listR at h
  split at h
  · cases h
  · rename_i hm
    split at h
    · rename_i hn
      exact ⟨Int.not_lt.1 hm, fun j hj => first_all hn j (Nat.zero_le _) (by omega)⟩
    · cases h
theorem polls_counts {c : Cfg} (h : (pollsR c).2 = 0) : ∀ q ∈ c.polls, 0 ≤ q.count ∧ q.count ≤ 1000 := fun q hq => by
  obtain ⟨j, hj, rfl⟩ := List.mem_iff_getElem.1 hq
  have := (listR_ok h).2 j hj
  have e : c.polls.getD j noPoll = c.polls[j] := by simp [hj]
  rw [e] at this
  simp only [pollN, Bool.and_eq_true] at this
  have := within_true this.2.2.1
  omega
def restR (c : Cfg) : Nat → Res
  | 0 => checkR c
  | 1 => Res.or (slavesR c) (Res.or (pollsR c) (Res.or (pointsR c) (ctlsR c)))
  | 2 => Res.or (pollsR c) (Res.or (pointsR c) (ctlsR c))
  | 3 => Res.or (pointsR c) (ctlsR c)
  | 4 => ctlsR c
  | _ => okR
theorem or_ok {a b : Res} (h : a.2 = 0) : Res.or a b = b := if_pos h
theorem or_bad {a b : Res} (h : a.2 ≠ 0) : Res.or a b = a := if_neg h
structure ChkInv (c : Cfg) (sl po pt ct : Value) (w : World) (i : Nat) (wr : World) : Prop where
  below : Below w.heap.size w wr
  box : CfgBox wr w.heap.size c sl po pt ct
  fns : wr.heap[w.heap.size + 1]? = some (.cells #[.func (.func 64) #[] #[], .func (.func 65) #[] #[], .func (.func 66) #[] #[], .func (.func 67) #[] #[], .func (.func 68) #[] #[]] 45 (0, 0))
  rest : restR c i = checkR c
  polls : 3 ≤ i → (pollsR c).2 = 0
  lists : ListsAt wr c sl po pt ct
theorem ChkInv.step {c : Cfg} {sl po pt ct : Value} {w wr w2 : World} {i : Nat} (h : ChkInv c sl po pt ct w i wr) (hb : Below wr.heap.size wr w2) (hr : restR c (i + 1) = checkR c) (hp : 3 ≤ i + 1 → (pollsR c).2 = 0) : ChkInv c sl po pt ct w (i + 1) w2 :=
  ⟨h.below.trans (hb.mono h.below.size), h.box.on hb, (hb.block _ (lt_heap h.fns)).trans h.fns, hr, hp, h.lists.on hb⟩
theorem two_new (w : World) (o p : Obj) : ((w.alloc o).alloc p).heap[w.heap.size]? = (w.alloc o).heap[w.heap.size]? ∧ ((w.alloc o).alloc p).heap[w.heap.size + 1]? = some p := by
  refine ⟨(below_new (w.alloc o) p).block _ (by simp), ?_⟩
  have := heap_alloc_new (w.alloc o) p
  simpa using this

theorem errIs_iface {w : World} {r : Res} {v : Value} (h0 : r.2 ≠ 0) (h : ErrIs w r v) : ∃ t y, v = .iface t y := by
  unfold ErrIs at h
  rw [if_neg h0] at h
  exact h.iface
theorem listR_zero {number most : Int} {n : Nat} {f : Nat → Bool} (h : (listR number most n f).2 = 0) : listR number most n f = okR := by
  unfold listR at *
  split
  · rename_i hm; rw [if_pos hm] at h; cases h
  · rename_i hm
    rw [if_neg hm] at h
    split
    · rfl
    · rename_i e; rw [e] at h; cases h
theorem ctls_okR {c : Cfg} (h : (ctlsR c).2 = 0) : ctlsR c = okR := listR_zero h
set_option maxRecDepth 100000 in
set_option maxHeartbeats 8000000 in
theorem check_any (c : Cfg) (sl po pt ct : Value) (w : World) (hl : ListsAt w c sl po pt ct) (hf : FewC c) : Calls Tryz.prog 20 #[cfgV c sl po pt ct] w (CheckIs w (checkR c)) := by
  have HF := Lib.hid hf
  have H0 : Hid (ChkInv c sl po pt ct w 0 ((w.alloc (.cells #[.int .i64 c.own, .int .i64 c.master, .bool c.unsol, .int .i64 c.reply, .int .i64 c.silence, .int .i64 c.retries, .int .i64 c.offline, .int .i64 c.select, .int .i64 c.confirm, .int .i64 c.frag, .int .i64 c.r0, .int .i64 c.r1, .int .i64 c.r2, sl, po, pt, ct] 28)).alloc (.cells #[.func (.func 64) #[] #[], .func (.func 65) #[] #[], .func (.func 66) #[] #[], .func (.func 67) #[] #[], .func (.func 68) #[] #[]] 45))) := Lib.hid ⟨twoBelow _ _ _, (two_new w _ _).1.trans (heap_alloc_new w _), (two_new w _ _).2, rfl, fun h => by omega, hl.on (twoBelow _ _ _)⟩
  obtain ⟨a1, q1, rfl, _⟩ := hl.sl.form
  obtain ⟨a2, q2, rfl, _⟩ := hl.po.form
  obtain ⟨a3, q3, rfl, _⟩ := hl.pt.form
  obtain ⟨a4, q4, rfl, _⟩ := hl.ct.form
  clear hl hf
  unfold cfgV
  go_enter Tryz.func20, Tryz.ntmps20
  go_wp2
  go_loopg [8] 5 (fun k s wr => ∃ i : Nat, i ≤ 5 ∧ k = 5 - i ∧ s = .int .i64 i ∧ Hid (ChkInv c (.slice a1 c.slaves.length q1) (.slice a2 c.polls.length q2) (.slice a3 c.points.length q3) (.slice a4 c.ctls.length q4) w i wr))
  case atStart => exact ⟨0, Nat.zero_le _, rfl, rfl, H0⟩
  case round =>
    obtain ⟨k, hk, rfl, rfl, HI⟩ := hrel
    have h5 : k = 0 ∨ k = 1 ∨ k = 2 ∨ k = 3 ∨ k = 4 ∨ k = 5 := by omega
    clear hk
    obtain ⟨k0, k1, k2, k3, k4, k5, k6, k7, k8, k9, k10, k11, k12⟩ := HI.out.box.fields
    obtain ⟨k13, k14, k15, k16⟩ := HI.out.box.lists
    have m0 : wr.cell? ⟨w.heap.size + 1, 0, none⟩ = some (.func (.func 64) #[] #[]) := by rw [cell_of_row _ _ _ _ _ _ HI.out.fns]; rfl
    have m1 : wr.cell? ⟨w.heap.size + 1, 1, none⟩ = some (.func (.func 65) #[] #[]) := by rw [cell_of_row _ _ _ _ _ _ HI.out.fns]; rfl
    have m2 : wr.cell? ⟨w.heap.size + 1, 2, none⟩ = some (.func (.func 66) #[] #[]) := by rw [cell_of_row _ _ _ _ _ _ HI.out.fns]; rfl
    have m3 : wr.cell? ⟨w.heap.size + 1, 3, none⟩ = some (.func (.func 67) #[] #[]) := by rw [cell_of_row _ _ _ _ _ _ HI.out.fns]; rfl
    have m4 : wr.cell? ⟨w.heap.size + 1, 4, none⟩ = some (.func (.func 68) #[] #[]) := by rw [cell_of_row _ _ _ _ _ _ HI.out.fns]; rfl
    rcases h5 with rfl | rfl | rfl | rfl | rfl | rfl
    · go_wp2_with fail
      refine (fields_any c _ _ _ _ _).mono ?_
      rintro e w2 ⟨v, rfl, he, hb⟩
      by_cases h0 : (fieldsR c).2 = 0
      · have hv : v = .nilIface := by unfold ErrIs at he; rw [if_pos h0] at he; exact he
        have HN : Hid (ChkInv c _ _ _ _ w 1 w2) := Lib.hid (HI.out.step hb (by rw [← HI.out.rest]; exact (or_ok h0).symm) (fun _ => by omega))
        subst hv
        clear he hb h0
        go_wp2
        go_roundg 4
        case measure => omega
        case rel => exact ⟨1, by omega, rfl, rfl, HN⟩
      · have E := Lib.hid (show checkR c = fieldsR c by rw [← HI.out.rest]; exact or_bad h0)
        have HE := Lib.hid he
        have HB := Lib.hid (HI.out.below.trans (hb.mono HI.out.below.size))
        obtain ⟨t, y, rfl⟩ := errIs_iface h0 he
        clear he hb h0
        go_wp2
        go_ret
        rw [E.out]
        exact ⟨_, rfl, HE.out, HB.out⟩
    · go_wp2_with fail
      refine (slaves_any c _ _ _ _ _ HI.out.lists HF.out).mono ?_
      rintro e w2 ⟨v, rfl, he, hb⟩
      by_cases h0 : (slavesR c).2 = 0
      · have hv : v = .nilIface := by unfold ErrIs at he; rw [if_pos h0] at he; exact he
        have HN : Hid (ChkInv c _ _ _ _ w 2 w2) := Lib.hid (HI.out.step hb (by rw [← HI.out.rest]; exact (or_ok h0).symm) (fun _ => by omega))
        subst hv
        clear he hb h0
        go_wp2
        go_roundg 3
        case measure => omega
        case rel => exact ⟨2, by omega, rfl, rfl, HN⟩
      · have E := Lib.hid (show checkR c = slavesR c by rw [← HI.out.rest]; exact or_bad h0)
        have HE := Lib.hid he
        have HB := Lib.hid (HI.out.below.trans (hb.mono HI.out.below.size))
        obtain ⟨t, y, rfl⟩ := errIs_iface h0 he
        clear he hb h0
        go_wp2
        go_ret
        rw [E.out]
        exact ⟨_, rfl, HE.out, HB.out⟩
    · go_wp2_with fail
      refine (polls_any c _ _ _ _ _ HI.out.lists HF.out).mono ?_
      rintro e w2 ⟨v, rfl, he, hb⟩
      by_cases h0 : (pollsR c).2 = 0
      · have hv : v = .nilIface := by unfold ErrIs at he; rw [if_pos h0] at he; exact he
        have HN : Hid (ChkInv c _ _ _ _ w 3 w2) := Lib.hid (HI.out.step hb (by rw [← HI.out.rest]; exact (or_ok h0).symm) (fun _ => h0))
        subst hv
        clear he hb h0
        go_wp2
        go_roundg 2
        case measure => omega
        case rel => exact ⟨3, by omega, rfl, rfl, HN⟩
      · have E := Lib.hid (show checkR c = pollsR c by rw [← HI.out.rest]; exact or_bad h0)
        have HE := Lib.hid he
        have HB := Lib.hid (HI.out.below.trans (hb.mono HI.out.below.size))
        obtain ⟨t, y, rfl⟩ := errIs_iface h0 he
        clear he hb h0
        go_wp2
        go_ret
        rw [E.out]
        exact ⟨_, rfl, HE.out, HB.out⟩
    · go_wp2_with fail
      refine (points_any c _ _ _ _ _ HI.out.lists HF.out (polls_counts (HI.out.polls (by omega)))).mono ?_
      rintro e w2 ⟨v, rfl, he, hb⟩
      by_cases h0 : (pointsR c).2 = 0
      · have hv : v = .nilIface := by unfold ErrIs at he; rw [if_pos h0] at he; exact he
        have HN : Hid (ChkInv c _ _ _ _ w 4 w2) := Lib.hid (HI.out.step hb (by rw [← HI.out.rest]; exact (or_ok h0).symm) (fun _ => HI.out.polls (by omega)))
        subst hv
        clear he hb h0
        go_wp2
        go_roundg 1
        case measure => omega
        case rel => exact ⟨4, by omega, rfl, rfl, HN⟩
      · have E := Lib.hid (show checkR c = pointsR c by rw [← HI.out.rest]; exact or_bad h0)
        have HE := Lib.hid he
        have HB := Lib.hid (HI.out.below.trans (hb.mono HI.out.below.size))
        obtain ⟨t, y, rfl⟩ := errIs_iface h0 he
        clear he hb h0
        go_wp2
        go_ret
        rw [E.out]
        exact ⟨_, rfl, HE.out, HB.out⟩
    · go_wp2_with fail
      refine (ctls_any c _ _ _ _ _ HI.out.lists HF.out).mono ?_
      rintro e w2 ⟨v, rfl, he, hb⟩
      by_cases h0 : (ctlsR c).2 = 0
      · have hv : v = .nilIface := by unfold ErrIs at he; rw [if_pos h0] at he; exact he
        have HN : Hid (ChkInv c _ _ _ _ w 5 w2) := Lib.hid (HI.out.step hb (by rw [← HI.out.rest]; exact (ctls_okR h0).symm) (fun _ => HI.out.polls (by omega)))
        subst hv
        clear he hb h0
        go_wp2
        go_roundg 0
        case measure => omega
        case rel => exact ⟨5, by omega, rfl, rfl, HN⟩
      · have E := Lib.hid (show checkR c = ctlsR c by rw [← HI.out.rest]; rfl)
        have HE := Lib.hid he
        have HB := Lib.hid (HI.out.below.trans (hb.mono HI.out.below.size))
        obtain ⟨t, y, rfl⟩ := errIs_iface h0 he
        clear he hb h0
        go_wp2
        go_ret
        rw [E.out]
        exact ⟨_, rfl, HE.out, HB.out⟩
    · have E := Lib.hid (show checkR c = okR by rw [← HI.out.rest]; rfl)
      go_wp2
      go_ret
      rw [E.out]
      exact ⟨_, rfl, errIs_ok rfl, HI.out.below⟩

end Go.Proofs.YtpocjmlkhophoaaGreatDoor
