/- config.pointsOf, controlsOf and placesOf: the places of a kind, in a list of the call's own. -/
import Derived.Test.YtpocjmlkhophoaaGreatDoorPlc
namespace Go.Proofs.YtpocjmlkhophoaaGreatDoor
open Go.RowKit Go.Extern.Stop Go.Stop Go.Extern

/-- A list of numbers of the call's own. -/
def NumsIs (w : World) (l : List Int) (e : Ending) (w' : World) : Prop := ∃ v, e = .returned v ∧ w'.ownsRow w.heap.size 3 1 v l.length (icells l) ∧ Below w.heap.size w w'
def PlInv (w : World) (l : List Int) (v : Value) (wr : World) : Prop := wr.ownsRow w.heap.size 3 1 v l.length (icells l) ∧ Below w.heap.size w wr
theorem plInv_nil (w : World) : PlInv w [] (.slice none 0 0) w := ⟨World.ownsRow_nil _ _ _ _, Below.refl _ _⟩
theorem next_i64 (i : Nat) (h : i < 1000000) : Value.int .i64 (wrap64 ((i : Int) + 1)) = .int .i64 ((i + 1 : Nat) : Int) := by
  congr 1
  unfold wrap64
  omega
/-- one place more, behind an element's box. -/
theorem plInv_more {w wr : World} {l : List Int} {v : Value} (h : PlInv w l v wr) (o : Obj) (x : Int) (hl : l.length ≤ 10000) :
    ∃ v' w', (Builtin.append_ #[23, 23] 23 #[v, .slice (some ⟨wr.heap.size + 1, 0, none⟩) 1 1]).run Tryz.prog ((wr.alloc o).alloc (.cells #[.int .i64 x] 3)) = .ok v' w' ∧ PlInv w (l ++ [x]) v' w' := by
  have hb0 : Below w.heap.size w (wr.alloc o) := h.2.trans ((below_new wr o).mono h.2.size)
  obtain ⟨v', w', h1, h2, h3⟩ := app_int (wr.alloc o) w.heap.size v l x (h.1.alloc _) hb0.size (by omega)
  have hsz : (wr.alloc o).heap.size = wr.heap.size + 1 := by simp
  rw [hsz] at h1
  exact ⟨v', w', h1, by rw [List.length_append]; exact h2, hb0.trans h3⟩
theorem plInv_box {w wr : World} {l : List Int} {v : Value} (h : PlInv w l v wr) (o : Obj) : PlInv w l v (wr.alloc o) := ⟨h.1.alloc _, h.2.trans ((below_new wr o).mono h.2.size)⟩

set_option maxRecDepth 100000 in
set_option maxHeartbeats 2000000 in
theorem pointsOf_any (l : List Pt) (kind : Int) (x : Value) (w : World) (hx : LiesAt w x l.length (ptCells l)) (hl : l.length ≤ 1000) : Calls Tryz.prog 77 #[x, .int .i64 kind] w (NumsIs w (plc (ptIs l kind) l.length)) := by
  have HC := Lib.hid hx
  have HL := Lib.hid hl
  obtain ⟨ao, cap, rfl, _⟩ := hx
  clear hl
  go_enter Tryz.func77, Tryz.ntmps77
  go_wp2
  go_loopg [5, 10] l.length (fun k s5 s10 wr => ∃ i : Nat, i ≤ l.length ∧ k = l.length - i ∧ s10 = .int .i64 i ∧ Hid (PlInv w (plc (ptIs l kind) i) s5 wr))
  case atStart => exact ⟨0, Nat.zero_le _, rfl, rfl, Lib.hid (plInv_nil w)⟩
  case round =>
    obtain ⟨i, hi, rfl, rfl, HI⟩ := hrel
    obtain ⟨a5, c5, hs5⟩ := own_slice HI.out.1
    subst hs5
    by_cases hlt : i < l.length
    · obtain ⟨bb, off, rfl, p0, p1, p2, p3, p4, p5, p6, p7⟩ := row8_of (HC.out.on HI.out.2) i hlt
      have HK : Hid (ptIs l kind i = (l[i].kind == kind)) := Lib.hid (by simp [ptIs, hlt])
      have HB := Lib.hid (show i < 1000000 by have := HL.out; omega)
      have HQ := Lib.hid (Nat.le_trans (plc_le (ptIs l kind) i) (by have := HL.out; omega : i ≤ 10000))
      generalize l[i] = y at *
      rcases Bool.eq_false_or_eq_true (y.kind == kind) with h0 | h0
      · obtain ⟨v', w', happ, hn⟩ := plInv_more HI.out (.cells #[.int .i64 y.kind, .int .i64 y.poll, .int .i64 y.place, .int .i64 y.cls, .int .i64 y.dead, .int .i64 y.num, .int .i64 y.den, .int .i64 y.off] 62) (i : Int) HQ.out
        have HN : Hid (PlInv w (plc (ptIs l kind) (i + 1)) v' w') := Lib.hid (by
          rw [plc_succ, HK.out, h0]
          exact hn)
        obtain ⟨av, cv, hsv⟩ := own_slice hn.1
        clear hn HK HQ HI
        subst hsv
        generalize (plc (ptIs l kind) i).length = n5 at *
        generalize (plc (ptIs l kind) i ++ [(i : Int)]).length = nv at *
        go_wp2_with (at_builtin; refine Lib.wpList_append_run _ rfl _ _ _ _ rfl _ _ rfl rfl _ _ happ ?_)
        go_roundg (l.length - (i + 1))
        case measure => omega
        case rel => exact ⟨i + 1, by omega, rfl, next_i64 i HB.out, HN⟩
      · have HN : Hid (PlInv w (plc (ptIs l kind) (i + 1)) (.slice a5 (plc (ptIs l kind) i).length c5) (wr.alloc (.cells #[.int .i64 y.kind, .int .i64 y.poll, .int .i64 y.place, .int .i64 y.cls, .int .i64 y.dead, .int .i64 y.num, .int .i64 y.den, .int .i64 y.off] 62))) := Lib.hid (by
          rw [plc_succ, HK.out, h0]
          exact plInv_box HI.out _)
        clear HK HQ HI
        go_wp2
        go_roundg (l.length - (i + 1))
        case measure => omega
        case rel => exact ⟨i + 1, by omega, rfl, next_i64 i HB.out, HN⟩
    · have HE : Hid (NumsIs w (plc (ptIs l kind) l.length) (.returned (.slice a5 (plc (ptIs l kind) i).length c5)) wr) := Lib.hid (by
        have := HI.out
        have e : i = l.length := by omega
        subst e
        exact ⟨_, rfl, this.1, this.2⟩)
      clear HI
      go_wp2
      go_ret
      exact HE.out
set_option maxRecDepth 100000 in
set_option maxHeartbeats 2000000 in
theorem ctlsOf_any (l : List Ctl) (kind : Int) (x : Value) (w : World) (hx : LiesAt w x l.length (ctlCells l)) (hl : l.length ≤ 1000) : Calls Tryz.prog 123 #[x, .int .i64 kind] w (NumsIs w (plc (ctlIs l kind) l.length)) := by
  have HC := Lib.hid hx
  have HL := Lib.hid hl
  obtain ⟨ao, cap, rfl, _⟩ := hx
  clear hl
  go_enter Tryz.func123, Tryz.ntmps123
  go_wp2
  go_loopg [5, 10] l.length (fun k s5 s10 wr => ∃ i : Nat, i ≤ l.length ∧ k = l.length - i ∧ s10 = .int .i64 i ∧ Hid (PlInv w (plc (ctlIs l kind) i) s5 wr))
  case atStart => exact ⟨0, Nat.zero_le _, rfl, rfl, Lib.hid (plInv_nil w)⟩
  case round =>
    obtain ⟨i, hi, rfl, rfl, HI⟩ := hrel
    obtain ⟨a5, c5, hs5⟩ := own_slice HI.out.1
    subst hs5
    by_cases hlt : i < l.length
    · obtain ⟨bb, off, rfl, p0, p1, p2⟩ := row3_of (HC.out.on HI.out.2) i hlt
      have HK : Hid (ctlIs l kind i = (l[i].kind == kind)) := Lib.hid (by simp [ctlIs, hlt])
      have HB := Lib.hid (show i < 1000000 by have := HL.out; omega)
      have HQ := Lib.hid (Nat.le_trans (plc_le (ctlIs l kind) i) (by have := HL.out; omega : i ≤ 10000))
      generalize l[i] = y at *
      rcases Bool.eq_false_or_eq_true (y.kind == kind) with h0 | h0
      · obtain ⟨v', w', happ, hn⟩ := plInv_more HI.out (.cells #[.int .i64 y.kind, .int .i64 y.slave, .int .i64 y.reg] 70) (i : Int) HQ.out
        have HN : Hid (PlInv w (plc (ctlIs l kind) (i + 1)) v' w') := Lib.hid (by
          rw [plc_succ, HK.out, h0]
          exact hn)
        obtain ⟨av, cv, hsv⟩ := own_slice hn.1
        clear hn HK HQ HI
        subst hsv
        generalize (plc (ctlIs l kind) i).length = n5 at *
        generalize (plc (ctlIs l kind) i ++ [(i : Int)]).length = nv at *
        go_wp2_with (at_builtin; refine Lib.wpList_append_run _ rfl _ _ _ _ rfl _ _ rfl rfl _ _ happ ?_)
        go_roundg (l.length - (i + 1))
        case measure => omega
        case rel => exact ⟨i + 1, by omega, rfl, next_i64 i HB.out, HN⟩
      · have HN : Hid (PlInv w (plc (ctlIs l kind) (i + 1)) (.slice a5 (plc (ctlIs l kind) i).length c5) (wr.alloc (.cells #[.int .i64 y.kind, .int .i64 y.slave, .int .i64 y.reg] 70))) := Lib.hid (by
          rw [plc_succ, HK.out, h0]
          exact plInv_box HI.out _)
        clear HK HQ HI
        go_wp2
        go_roundg (l.length - (i + 1))
        case measure => omega
        case rel => exact ⟨i + 1, by omega, rfl, next_i64 i HB.out, HN⟩
    · have HE : Hid (NumsIs w (plc (ctlIs l kind) l.length) (.returned (.slice a5 (plc (ctlIs l kind) i).length c5)) wr) := Lib.hid (by
        have := HI.out
        have e : i = l.length := by omega
        subst e
        exact ⟨_, rfl, this.1, this.2⟩)
      clear HI
      go_wp2
      go_ret
      exact HE.out
end Go.Proofs.YtpocjmlkhophoaaGreatDoor
