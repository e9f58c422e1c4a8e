/- plan.Done and plan.New in memory. -/
import Derived.Test.YtcbiomcbkmdhaaaDoorPln
namespace Go.Proofs.YtcbiomcbkmdhaaaDoor
open Go.RowKit Go.Extern.Stop Go.Stop Go.Extern

theorem tcells_due : ∀ (ts : List (Int × Int)) (i : Nat) (d : Int), (tcells ts).set (i * 2 + 1) (.int .i64 d) = tcells (ts.set i ((ts.getD i (0, 0)).1, d))
  | [], _, _ => by simp [tcells]
  | (_, _) :: _, 0, _ => by simp [tcells]
  | (_, _) :: l, i + 1, d => by
    have e : (i + 1) * 2 + 1 = (i * 2 + 1) + 1 + 1 := by omega
    rw [e]
    simp only [tcells, List.set_cons_succ, List.getD_cons_succ, tcells_due l i d]
theorem tcells_every : ∀ (ts : List (Int × Int)) (i : Nat) (x : Int), (tcells ts).set (i * 2) (.int .i64 x) = tcells (ts.set i (x, (ts.getD i (0, 0)).2))
  | [], _, _ => by simp [tcells]
  | (_, _) :: _, 0, _ => by simp [tcells]
  | (_, _) :: l, i + 1, x => by
    have e : (i + 1) * 2 = (i * 2) + 1 + 1 := by omega
    rw [e]
    simp only [tcells, List.set_cons_succ, List.getD_cons_succ, tcells_every l i x]
theorem off_drew {S : Nat → Prop} {a b : World} (h : Off S a b) (q : Nat) : Off S a (b.drewN q) := ⟨h.os, h.tape, h.output, h.size, h.block⟩
theorem own_drew {w : World} {base : Nat} {e : TypeId} {size : Nat} {v : Value} {n : Nat} {xs : List Value} (h : w.ownsRow base e size v n xs) (q : Nat) : (w.drewN q).ownsRow base e size v n xs := ownsRow_off h (Off.of_below (fun _ => False) (below_drew w q)) (fun _ _ f => f)
/-- Done's answer: the Plan's own row alone has turned. -/
def DoneOk (w : World) (B p : Nat) (v : Value) (ts : List (Int × Int)) (e : Ending) (w' : World) : Prop := e = .returned .nilIface ∧ PlAt w' B p v ts ∧ Off (fun k => v.ownBlock = some k) w w'
set_option maxRecDepth 100000 in
set_option maxHeartbeats 2000000 in
theorem done_ok (B p : Nat) (v : Value) (ts : List (Int × Int)) (i : Nat) (now : Int) (w : World) (h : PlAt w B p v ts) (hi : i < ts.length) (h0 : 0 ≤ now) (h1 : now ≤ 1099511627776) (e0 : 0 ≤ (ts.getD i (0, 0)).1) (e1 : (ts.getD i (0, 0)).1 ≤ 10000) :
    Calls Tryd.prog 10 #[.pointer (some ⟨p, 0, none⟩), .int .i64 (i : Int), .int .i64 now] w (DoneOk w B p v (doneP ts i now)) := by
  have HH := Lib.hid (has_any B p v ts (i : Int) w h)
  have HE : Hid (hasP ts (i : Int) = true) := Lib.hid (by simp [hasP, hi])
  have H := Lib.hid h
  obtain ⟨x, hx⟩ : ∃ x, x = (ts.getD i (0, 0)).1 := ⟨_, rfl⟩
  have hxe : Hid (ts[i].1 = x) := Lib.hid (by rw [hx]; simp [List.getD, hi])
  rw [← hx] at e0 e1
  have hw : IntKind.i64.wrap (now + x) = now + x := by rw [IntKind.wrap_i64]; omega
  have HX := Lib.hid hx
  clear h hx
  go_enter Tryd.func10, Tryd.ntmps10
  go_wp2_with fail
  refine HH.out.mono ?_
  rintro e w1 ⟨rfl, hb⟩
  rw [HE.out]
  have HB := Lib.hid hb
  have H1 := Lib.hid (H.out.on hb)
  have c0 := H1.out.c0
  obtain ⟨ao, cap, he, _, _, hcell⟩ := H1.out.form
  have HV := Lib.hid he
  obtain ⟨g, hg, p0, p1⟩ := hcell i hi
  subst hg
  rw [HV.out] at c0
  have hi0 : (0 : Int) ≤ (i : Int) := by omega
  have hil : (i : Int) < (ts.length : Int) := by omega
  rw [hxe.out] at p0
  have hf : w1.frozen? ⟨g, i * 2 + 1, none⟩ = false := by
    have := H1.out.own
    rw [HV.out] at this
    exact this.frozenAt _
  have HR : ∀ q, Hid (DoneOk w B p v (doneP ts i now) (.returned .nilIface) ((w1.drewN q).setCell ⟨g, i * 2 + 1, none⟩ (.int .i64 (now + x)))) := fun q => Lib.hid (by
    have ho := own_drew H1.out.own q
    have hs : Off (fun k => v.ownBlock = some k) (w1.drewN q) ((w1.drewN q).setCell ⟨g, i * 2 + 1, none⟩ (.int .i64 (now + x))) := Off.set _ _ _ _ (by rw [HV.out]; rfl)
    refine ⟨rfl, ⟨H1.out.base, (hs.block p (by simpa using H1.out.lt) H1.out.ne).trans H1.out.obj, ?_⟩, ((Off.of_below _ HB.out).trans (off_drew (Off.refl _ _) q)).trans hs⟩
    rw [HV.out] at ho ⊢
    have := (ho.stored (i * 2 + 1) (.int .i64 (now + x))).1
    rw [tcells_due] at this
    rw [doneP_length]
    unfold doneP
    rw [← HX.out] at this ⊢
    exact this)
  clear hcell hb he
  go_wp2
  go_still_tail 15, (by kernel_rfl)
  go_wp2
  go_ret
  exact (HR _).out
def DoneNo (w : World) (x c : Int) (e : Ending) (w' : World) : Prop := ∃ v, e = .returned v ∧ PErr w' x c v ∧ Below w.heap.size w w'
theorem done_none (B p : Nat) (v : Value) (ts : List (Int × Int)) (i now : Int) (w : World) (h : PlAt w B p v ts) (hi : hasP ts i = false) :
    Calls Tryd.prog 10 #[.pointer (some ⟨p, 0, none⟩), .int .i64 i, .int .i64 now] w (DoneNo w i 7) := by
  have HH := Lib.hid (has_any B p v ts i w h)
  have HE := Lib.hid hi
  clear h hi
  go_enter Tryd.func10, Tryd.ntmps10
  go_wp2_with fail
  refine HH.out.mono ?_
  rintro e w1 ⟨rfl, hb⟩
  rw [HE.out]
  have HB := Lib.hid hb
  clear hb
  go_wp2_with fail
  refine (fault_any _ _ _).mono ?_
  rintro e w2 ⟨⟨x, rfl, hx⟩, hb⟩
  have HR : Hid (DoneNo w i 7 (.returned x) w2) := Lib.hid ⟨x, rfl, hx, HB.out.trans (hb.mono HB.out.size)⟩
  obtain ⟨bx, rfl⟩ := hx.form
  clear hx hb
  go_wp2
  go_ret
  exact HR.out
theorem done_bad (B p : Nat) (v : Value) (ts : List (Int × Int)) (i now : Int) (w : World) (h : PlAt w B p v ts) (hi : hasP ts i = true) (hn : now < 0 ∨ 1099511627776 < now) :
    Calls Tryd.prog 10 #[.pointer (some ⟨p, 0, none⟩), .int .i64 i, .int .i64 now] w (DoneNo w i 1) := by
  have HH := Lib.hid (has_any B p v ts i w h)
  have HE := Lib.hid hi
  clear h hi
  rcases hn with hn | hn <;> (
    go_enter Tryd.func10, Tryd.ntmps10
    go_wp2_with fail
    refine HH.out.mono ?_
    rintro e w1 ⟨rfl, hb⟩
    rw [HE.out]
    have HB := Lib.hid hb
    clear hb
    go_wp2_with fail
    refine (fault_any _ _ _).mono ?_
    rintro e w2 ⟨⟨x, rfl, hx⟩, hb⟩
    have HR : Hid (DoneNo w i 1 (.returned x) w2) := Lib.hid ⟨x, rfl, hx, HB.out.trans (hb.mono HB.out.size)⟩
    obtain ⟨bx, rfl⟩ := hx.form
    clear hx hb
    go_wp2
    go_ret
    exact HR.out)
/-- Done, whatever it is asked. -/
def DoneIs (w : World) (B p : Nat) (v : Value) (ts : List (Int × Int)) (i now : Int) (e : Ending) (w' : World) : Prop :=
  ∃ x, e = .returned x ∧ PlAt w' B p v (doneA ts i now) ∧ Off (fun k => v.ownBlock = some k) w w' ∧ ((doneR ts i now ∧ x = .nilIface) ∨ (¬ doneR ts i now ∧ PErr w' i (if hasP ts i = true then 1 else 7) x))
theorem done_any (B p : Nat) (v : Value) (l : List Int) (ts : List (Int × Int)) (i now : Int) (w : World) (h : PlAt w B p v ts) (hk : PollsOk l ts) :
    Calls Tryd.prog 10 #[.pointer (some ⟨p, 0, none⟩), .int .i64 i, .int .i64 now] w (DoneIs w B p v ts i now) := by
  by_cases hr : doneR ts i now
  · obtain ⟨⟨h0, h1⟩, h2, h3⟩ := id hr
    obtain ⟨n, rfl⟩ : ∃ n : Nat, i = (n : Int) := ⟨i.toNat, by omega⟩
    have hn : n < ts.length := by omega
    have he := hk.every n (by rw [← hk.len]; exact hn)
    have hb := every_get hk.2.1 n (by rw [← hk.len]; exact hn)
    rw [← he] at hb
    refine (done_ok B p v ts n now w h hn h2 h3 (by omega) (by omega)).mono ?_
    rintro e w' ⟨rfl, h4, h5⟩
    refine ⟨_, rfl, ?_, h5, .inl ⟨hr, rfl⟩⟩
    unfold doneA
    rw [if_pos hr]
    exact h4
  · have hd : doneA ts i now = ts := by unfold doneA; rw [if_neg hr]
    by_cases hi : hasP ts i = true
    · refine (done_bad B p v ts i now w h hi (by
        unfold doneR at hr
        have : 0 ≤ i ∧ i < (ts.length : Int) := by simpa [hasP] using hi
        omega)).mono ?_
      rintro e w' ⟨x, rfl, hx, hb⟩
      exact ⟨x, rfl, by rw [hd]; exact h.on hb, Off.of_below _ hb, .inr ⟨hr, by rw [if_pos hi]; exact hx⟩⟩
    · refine (done_none B p v ts i now w h (by simpa using hi)).mono ?_
      rintro e w' ⟨x, rfl, hx, hb⟩
      exact ⟨x, rfl, by rw [hd]; exact h.on hb, Off.of_below _ hb, .inr ⟨hr, by rw [if_neg hi]; exact hx⟩⟩
end Go.Proofs.YtcbiomcbkmdhaaaDoor
