/- The functions that config's checks hand to checkList: what each answers of the element at its index; memory that was there stands. -/
import Derived.Test.YtpocjmlkhophoaaGreatDoorCk3
import Derived.StillTailTactics
namespace Go.Proofs.YtpocjmlkhophoaaGreatDoor
open Go.RowKit Go.Extern.Stop Go.Stop Go.Extern

/-- A configuration in a box. -/
def CfgBox (w : World) (g : Nat) (c : Cfg) (sl po pt ct : Value) : Prop := w.heap[g]? = some (.cells #[.int .i64 c.own, .int .i64 c.master, .bool c.unsol, .int .i64 c.reply, .int .i64 c.silence, .int .i64 c.retries, .int .i64 c.offline, .int .i64 c.select, .int .i64 c.confirm, .int .i64 c.frag, .int .i64 c.r0, .int .i64 c.r1, .int .i64 c.r2, sl, po, pt, ct] 28 (0, 0))
theorem CfgBox.on {w w' : World} {g : Nat} {c : Cfg} {sl po pt ct : Value} (h : CfgBox w g c sl po pt ct) (hb : Below w.heap.size w w') : CfgBox w' g c sl po pt ct := (hb.block g (lt_heap h)).trans h
theorem cfgBox_new (w : World) (c : Cfg) (sl po pt ct : Value) : CfgBox (w.alloc (.cells #[.int .i64 c.own, .int .i64 c.master, .bool c.unsol, .int .i64 c.reply, .int .i64 c.silence, .int .i64 c.retries, .int .i64 c.offline, .int .i64 c.select, .int .i64 c.confirm, .int .i64 c.frag, .int .i64 c.r0, .int .i64 c.r1, .int .i64 c.r2, sl, po, pt, ct] 28)) w.heap.size c sl po pt ct := heap_alloc_new w _
theorem CfgBox.lists {w : World} {g : Nat} {c : Cfg} {sl po pt ct : Value} (h : CfgBox w g c sl po pt ct) : w.cell? ⟨g, 13, none⟩ = some sl ∧ w.cell? ⟨g, 14, none⟩ = some po ∧ w.cell? ⟨g, 15, none⟩ = some pt ∧ w.cell? ⟨g, 16, none⟩ = some ct :=
  ⟨by rw [cell_of_row _ _ _ _ _ _ h]; rfl, by rw [cell_of_row _ _ _ _ _ _ h]; rfl, by rw [cell_of_row _ _ _ _ _ _ h]; rfl, by rw [cell_of_row _ _ _ _ _ _ h]; rfl⟩
theorem CfgBox.fields {w : World} {g : Nat} {c : Cfg} {sl po pt ct : Value} (h : CfgBox w g c sl po pt ct) : w.cell? ⟨g, 0, none⟩ = some (.int .i64 c.own) ∧ w.cell? ⟨g, 1, none⟩ = some (.int .i64 c.master) ∧ w.cell? ⟨g, 2, none⟩ = some (.bool c.unsol) ∧ w.cell? ⟨g, 3, none⟩ = some (.int .i64 c.reply) ∧ w.cell? ⟨g, 4, none⟩ = some (.int .i64 c.silence) ∧ w.cell? ⟨g, 5, none⟩ = some (.int .i64 c.retries) ∧ w.cell? ⟨g, 6, none⟩ = some (.int .i64 c.offline) ∧ w.cell? ⟨g, 7, none⟩ = some (.int .i64 c.select) ∧ w.cell? ⟨g, 8, none⟩ = some (.int .i64 c.confirm) ∧ w.cell? ⟨g, 9, none⟩ = some (.int .i64 c.frag) ∧ w.cell? ⟨g, 10, none⟩ = some (.int .i64 c.r0) ∧ w.cell? ⟨g, 11, none⟩ = some (.int .i64 c.r1) ∧ w.cell? ⟨g, 12, none⟩ = some (.int .i64 c.r2) := by
  refine ⟨?_, ?_, ?_, ?_, ?_, ?_, ?_, ?_, ?_, ?_, ?_, ?_, ?_⟩ <;> (rw [cell_of_row _ _ _ _ _ _ h]; rfl)
/-- Few elements each. -/
def FewC (c : Cfg) : Prop := c.slaves.length ≤ 300 ∧ c.polls.length ≤ 300 ∧ c.points.length ≤ 300 ∧ c.ctls.length ≤ 300

theorem lies_cells {w : World} {ao : Option Addr} {n m cap : Nat} {xs : List Value} (h : LiesAt w (.slice ao n cap) m xs) {i : Nat} {u : Value} (hi : xs[i]? = some u) : ∃ b off, ao = some ⟨b, off, none⟩ ∧ ∀ j x, xs[j]? = some x → w.cell? ⟨b, off + j, none⟩ = some x := by
  obtain ⟨ao', cap', e, _, hc⟩ := h
  simp only [Value.slice.injEq] at e
  obtain ⟨rfl, _, _⟩ := e
  obtain ⟨b, off, e0, h0⟩ := hc _ _ hi
  refine ⟨b, off, e0, fun j u hj => ?_⟩
  obtain ⟨b', off', e', h'⟩ := hc j u hj
  rw [e0] at e'
  simp only [Option.some.injEq, Addr.mk.injEq] at e'
  obtain ⟨rfl, rfl, _⟩ := e'
  exact h'
theorem LiesAt.form {w : World} {v : Value} {n : Nat} {xs : List Value} (h : LiesAt w v n xs) : ∃ ao cap, v = .slice ao n cap ∧ n ≤ cap := by
  obtain ⟨ao, cap, e, hn, _⟩ := h
  exact ⟨ao, cap, e, hn⟩

set_option maxRecDepth 100000 in
set_option maxHeartbeats 2000000 in
theorem pollcl_any (c : Cfg) (i : Nat) (g : Nat) (sl po pt ct : Value) (w : World) (hx : CfgBox w g c sl po pt ct) (hl : ListsAt w c sl po pt ct) (hf : FewC c) (hi : i < c.polls.length) : Calls Tryz.prog 110 #[.int .i64 (i : Int), .pointer (some ⟨g, 0, none⟩)] w fun e w' => e = .returned (.bool (pollN (c.polls.getD i noPoll) c.slaves.length)) ∧ Below w.heap.size w w' := by
  have HX := Lib.hid hx
  have HL := Lib.hid hl
  obtain ⟨a1, q1, rfl, _⟩ := hl.sl.form
  obtain ⟨a2, q2, rfl, _⟩ := hl.po.form
  obtain ⟨a3, q3, rfl, _⟩ := hl.pt.form
  obtain ⟨a4, q4, rfl, _⟩ := hl.ct.form
  obtain ⟨k13, k14, k15, k16⟩ := hx.lists
  obtain ⟨f1, f2, f3, f4⟩ := hf
  obtain ⟨b, off, rfl, p0, p1, p2, p3, p4⟩ := row5_of hl.po i hi
  have E := Lib.hid (show c.polls.getD i noPoll = c.polls[i] by simp [hi])
  have hi1 : (i : Int) < (c.polls.length : Int) := by omega
  have hi0 : (0 : Int) ≤ (i : Int) := by omega
  clear hx hl
  rw [E.out]
  generalize c.polls[i] = y at *
  generalize c.slaves.length = ns at *
  generalize c.polls.length = np at *
  clear k15 k16 E
  go_enter Tryz.func110, Tryz.ntmps110
  go_wp2
  go_still_tail 8, (by kernel_rfl)
  go_wp2_with fail
  refine (poll_any y.slave y.func y.start y.count y.every ns _ (by omega) (by omega)).mono ?_
  rintro e w1 ⟨rfl, hb⟩
  have HB := Lib.hid hb
  clear hb
  go_wp2
  go_ret
  exact ⟨rfl, (below_drew w 1).trans HB.out⟩

theorem row8_of {w : World} {ao : Option Addr} {n cap : Nat} {l : List Pt} (h : LiesAt w (.slice ao n cap) l.length (ptCells l)) (i : Nat) (hi : i < l.length) : ∃ b off, ao = some ⟨b, off, none⟩ ∧ w.cell? ⟨b, off + i * 8, none⟩ = some (.int .i64 l[i].kind) ∧ w.cell? ⟨b, off + i * 8 + 1, none⟩ = some (.int .i64 l[i].poll) ∧ w.cell? ⟨b, off + i * 8 + 2, none⟩ = some (.int .i64 l[i].place) ∧ w.cell? ⟨b, off + i * 8 + 3, none⟩ = some (.int .i64 l[i].cls) ∧ w.cell? ⟨b, off + i * 8 + 4, none⟩ = some (.int .i64 l[i].dead) ∧ w.cell? ⟨b, off + i * 8 + 5, none⟩ = some (.int .i64 l[i].num) ∧ w.cell? ⟨b, off + i * 8 + 6, none⟩ = some (.int .i64 l[i].den) ∧ w.cell? ⟨b, off + i * 8 + 7, none⟩ = some (.int .i64 l[i].off) := by
  obtain ⟨g0, g1, g2, g3, g4, g5, g6, g7⟩ := ptCells_get l i hi
  obtain ⟨b, off, e0, at'⟩ := lies_cells h g0
  exact ⟨b, off, e0, at' _ _ g0, by simpa [Nat.add_assoc] using at' _ _ g1, by simpa [Nat.add_assoc] using at' _ _ g2, by simpa [Nat.add_assoc] using at' _ _ g3, by simpa [Nat.add_assoc] using at' _ _ g4, by simpa [Nat.add_assoc] using at' _ _ g5, by simpa [Nat.add_assoc] using at' _ _ g6, by simpa [Nat.add_assoc] using at' _ _ g7⟩
theorem row3_of {w : World} {ao : Option Addr} {n cap : Nat} {l : List Ctl} (h : LiesAt w (.slice ao n cap) l.length (ctlCells l)) (i : Nat) (hi : i < l.length) : ∃ b off, ao = some ⟨b, off, none⟩ ∧ w.cell? ⟨b, off + i * 3, none⟩ = some (.int .i64 l[i].kind) ∧ w.cell? ⟨b, off + i * 3 + 1, none⟩ = some (.int .i64 l[i].slave) ∧ w.cell? ⟨b, off + i * 3 + 2, none⟩ = some (.int .i64 l[i].reg) := by
  obtain ⟨g0, g1, g2⟩ := ctlCells_get l i hi
  obtain ⟨b, off, e0, at'⟩ := lies_cells h g0
  exact ⟨b, off, e0, at' _ _ g0, by simpa [Nat.add_assoc] using at' _ _ g1, by simpa [Nat.add_assoc] using at' _ _ g2⟩
set_option maxRecDepth 100000 in
set_option maxHeartbeats 2000000 in
theorem pointcl_any (c : Cfg) (i : Nat) (g : Nat) (sl po pt ct : Value) (w : World) (hx : CfgBox w g c sl po pt ct) (hl : ListsAt w c sl po pt ct) (hf : FewC c) (hi : i < c.points.length) (hq : ∀ q ∈ c.polls, 0 ≤ q.count ∧ q.count ≤ 1000) : Calls Tryz.prog 112 #[.int .i64 (i : Int), .pointer (some ⟨g, 0, none⟩)] w fun e w' => e = .returned (.bool (pointN (c.points.getD i noPt) c.polls)) ∧ Below w.heap.size w w' := by
  have HX := Lib.hid hx
  have HL := Lib.hid hl
  obtain ⟨a1, q1, rfl, _⟩ := hl.sl.form
  obtain ⟨a2, q2, rfl, _⟩ := hl.po.form
  obtain ⟨a3, q3, rfl, _⟩ := hl.pt.form
  obtain ⟨a4, q4, rfl, _⟩ := hl.ct.form
  obtain ⟨k13, k14, k15, k16⟩ := hx.lists
  obtain ⟨f1, f2, f3, f4⟩ := hf
  obtain ⟨b, off, rfl, p0, p1, p2, p3, p4, p5, p6, p7⟩ := row8_of hl.pt i hi
  have E := Lib.hid (show c.points.getD i noPt = c.points[i] by simp [hi])
  have HP := Lib.hid (hl.po.on (below_drew w 1))
  have HQ := Lib.hid hq
  have hi1 : (i : Int) < (c.points.length : Int) := by omega
  have hi0 : (0 : Int) ≤ (i : Int) := by omega
  clear hx hl hq
  rw [E.out]
  generalize c.points[i] = y at *
  generalize c.points.length = np at *
  clear k13 k16 E
  go_enter Tryz.func112, Tryz.ntmps112
  go_wp2
  go_still_tail 7, (by kernel_rfl)
  go_wp2_with fail
  refine (point_any y c.polls _ _ HP.out (by omega) HQ.out).mono ?_
  rintro e w1 ⟨rfl, hb⟩
  have HB := Lib.hid hb
  clear hb
  go_wp2
  go_ret
  exact ⟨rfl, (below_drew w 1).trans HB.out⟩
set_option maxRecDepth 100000 in
set_option maxHeartbeats 2000000 in
theorem ctlcl_any (c : Cfg) (i : Nat) (g : Nat) (sl po pt ct : Value) (w : World) (hx : CfgBox w g c sl po pt ct) (hl : ListsAt w c sl po pt ct) (hf : FewC c) (hi : i < c.ctls.length) : Calls Tryz.prog 114 #[.int .i64 (i : Int), .pointer (some ⟨g, 0, none⟩)] w fun e w' => e = .returned (.bool (ctlN (c.ctls.getD i noCtl) c.slaves.length)) ∧ Below w.heap.size w w' := by
  have HX := Lib.hid hx
  have HL := Lib.hid hl
  obtain ⟨a1, q1, rfl, _⟩ := hl.sl.form
  obtain ⟨a2, q2, rfl, _⟩ := hl.po.form
  obtain ⟨a3, q3, rfl, _⟩ := hl.pt.form
  obtain ⟨a4, q4, rfl, _⟩ := hl.ct.form
  obtain ⟨k13, k14, k15, k16⟩ := hx.lists
  obtain ⟨f1, f2, f3, f4⟩ := hf
  obtain ⟨b, off, rfl, p0, p1, p2⟩ := row3_of hl.ct i hi
  have E := Lib.hid (show c.ctls.getD i noCtl = c.ctls[i] by simp [hi])
  have hi1 : (i : Int) < (c.ctls.length : Int) := by omega
  have hi0 : (0 : Int) ≤ (i : Int) := by omega
  clear hx hl
  rw [E.out]
  generalize c.ctls[i] = y at *
  generalize c.slaves.length = ns at *
  generalize c.ctls.length = np at *
  clear k14 k15 E
  go_enter Tryz.func114, Tryz.ntmps114
  go_wp2
  go_still_tail 8, (by kernel_rfl)
  go_wp2_with fail
  refine (ctl_any y.kind y.slave y.reg ns _ (by omega) (by omega)).mono ?_
  rintro e w1 ⟨rfl, hb⟩
  have HB := Lib.hid hb
  clear hb
  go_wp2
  go_ret
  exact ⟨rfl, (below_drew w 1).trans HB.out⟩
theorem cont_q {r : Bool} {l : List Int} {v : Int} {x : Value} {w : World} (n : Nat) (hx : LiesAt w x l.length (icells l)) (hl : l.length ≤ 1000000) (h : l.contains v = r) : Calls Tryz.prog 109 #[x, .int .i64 v] (w.drewN n) fun e w' => e = .returned (.bool r) ∧ w' = w.drewN n := (contains_any l v x _ (hx.on (below_drew w n)) hl).mono fun _ _ ⟨he, hw⟩ => ⟨by rw [he, h], hw.symm⟩
set_option maxRecDepth 100000 in
set_option maxHeartbeats 2000000 in
theorem slavecl_any (c : Cfg) (i : Nat) (g : Nat) (sl po pt ct : Value) (w : World) (hx : CfgBox w g c sl po pt ct) (hl : ListsAt w c sl po pt ct) (hf : FewC c) (hi : i < c.slaves.length) : Calls Tryz.prog 108 #[.int .i64 (i : Int), .pointer (some ⟨g, 0, none⟩)] w fun e w' => e = .returned (.bool (slaveN c.slaves i)) ∧ Below w.heap.size w w' := by
  have HX := Lib.hid hx
  have HL := Lib.hid hl
  obtain ⟨a1, q1, rfl, _⟩ := hl.sl.form
  obtain ⟨a2, q2, rfl, _⟩ := hl.po.form
  obtain ⟨a3, q3, rfl, _⟩ := hl.pt.form
  obtain ⟨a4, q4, rfl, _⟩ := hl.ct.form
  obtain ⟨k13, k14, k15, k16⟩ := hx.lists
  obtain ⟨f1, f2, f3, f4⟩ := hf
  obtain ⟨b, off, rfl, at'⟩ := lies_cells hl.sl (icells_get c.slaves i hi)
  have p0 := at' _ _ (icells_get c.slaves i hi)
  have hcap : c.slaves.length ≤ q1 := by assumption
  have HT : Hid (LiesAt w (.slice (some ⟨b, off, none⟩) i q1) (c.slaves.take i).length (icells (c.slaves.take i))) := Lib.hid (by
    refine ⟨_, q1, by rw [List.length_take, Nat.min_eq_left (by omega)], by rw [List.length_take]; omega, fun j u hj => ⟨b, off, rfl, ?_⟩⟩
    have hji : j < i := by
      have := (List.getElem?_eq_some_iff.1 hj).1
      rw [icells_length, List.length_take] at this
      omega
    refine at' j u ?_
    rw [← hj]
    simp [icells, hji])
  have E := Lib.hid (show slaveN c.slaves i = (within c.slaves[i] 1 247 && !((c.slaves.take i).contains c.slaves[i])) by simp [slaveN, hi])
  have hi1 : (i : Int) < (c.slaves.length : Int) := by omega
  have hi2 : (i : Int) ≤ (q1 : Int) := by omega
  have hi0 : (0 : Int) ≤ (i : Int) := by omega
  have HLT : Hid ((c.slaves.take i).length ≤ 1000000) := Lib.hid (by rw [List.length_take]; omega)
  rw [E.out]
  clear hx hl at' E HL HX
  generalize c.slaves.take i = tl at *
  generalize c.slaves[i] = y at *
  generalize c.slaves.length = ns at *
  clear k14 k15 k16
  rcases Bool.eq_false_or_eq_true (within y 1 247) with h0 | h0
  · rcases Bool.eq_false_or_eq_true (tl.contains y) with h1 | h1
    · go_enter Tryz.func108, Tryz.ntmps108
      go_wp2
      go_quiet (first | (go_at_call 104; exact Calls.quiet_of_same (cw_q (by assumption) _)) | (go_at_call 109; exact Calls.quiet_of_same (cont_q _ HT.out HLT.out h1)))
      go_wp2
      go_ret
      rw [h0, h1]
      exact ⟨rfl, below_drew w _⟩
    · go_enter Tryz.func108, Tryz.ntmps108
      go_wp2
      go_quiet (first | (go_at_call 104; exact Calls.quiet_of_same (cw_q (by assumption) _)) | (go_at_call 109; exact Calls.quiet_of_same (cont_q _ HT.out HLT.out h1)))
      go_wp2
      go_ret
      rw [h0, h1]
      exact ⟨rfl, below_drew w _⟩
  · go_enter Tryz.func108, Tryz.ntmps108
    go_wp2
    go_quiet (first | (go_at_call 104; exact Calls.quiet_of_same (cw_q (by assumption) _)))
    go_wp2
    go_ret
    rw [h0]
    exact ⟨rfl, below_drew w _⟩

end Go.Proofs.YtpocjmlkhophoaaGreatDoor
