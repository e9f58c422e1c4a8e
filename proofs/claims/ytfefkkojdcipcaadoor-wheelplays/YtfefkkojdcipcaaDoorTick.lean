/- wheel.Tick in memory, for every Wheel. -/
import Derived.Test.YtfefkkojdcipcaaDoorSet
import Derived.Test.YtfefkkojdcipcaaDoorCopy
namespace Go.Proofs.YtfefkkojdcipcaaDoor
open Go.RowKit Go.Extern.Stop Go.Stop Go.Extern

def dueT (now : Int) (ts : List (Int × Int)) : List (Int × Int) := ts.takeWhile fun t => decide (t.2 ≤ now)
def restT (now : Int) (ts : List (Int × Int)) : List (Int × Int) := ts.dropWhile fun t => decide (t.2 ≤ now)

theorem tick_bad (p : Nat) (n : Int) (w : World) (hbad : ¬ (0 ≤ n ∧ n ≤ 1099511627776)) :
    Calls Tryd.prog 16 #[.pointer (some ⟨p, 0, none⟩), .int .i64 n] w fun e w' => ∃ x, e = .returned (.tuple #[.slice none 0 0, x]) ∧ WheelErr w' n x ∧ Below w.heap.size w w' := by
  have H2 := Lib.hid hbad
  clear hbad
  go_enter Tryd.func16, Tryd.ntmps16
  go_wp2_with fail
  refine (span_no n H2.out _).mono ?_
  rintro e w1 ⟨rfl, rfl⟩
  go_wp2_with fail
  refine (fault_any _ _).mono ?_
  rintro e w1 ⟨x, rfl, hx, hb⟩
  have HX := Lib.hid (And.intro hx hb)
  clear hx hb
  go_wp2
  go_ret2
  exact ⟨_, rfl, HX.out.1, HX.out.2⟩

theorem WhAt.clock {w : World} {B p : Nat} {now : Int} {v : Value} {ts : List (Int × Int)} (h : WhAt w B p now v ts) (t : Int) : WhAt (w.setCell ⟨p, 0, none⟩ (.int .i64 t)) B p t v ts :=
  ⟨h.base, by rw [heap_set _ _ _ _ _ _ _ h.obj]; rfl, ownsRow_off h.own (Off.set (fun k => k = p) w ⟨p, 0, none⟩ _ rfl) (fun k e s => row_no h.own h.obj (by decide) (by rw [e, s]))⟩

set_option maxRecDepth 100000 in
set_option maxHeartbeats 4000000 in
theorem tick_ok (B p : Nat) (now : Int) (v : Value) (ts : List (Int × Int)) (n : Int) (w : World) (h : WhAt w B p now v ts) (hl : ts.length ≤ 100000) (h0 : 0 ≤ n) (h1 : n ≤ 1099511627776) (hn0 : 0 ≤ now) (hn1 : now ≤ 1099511627776) :
    Calls Tryd.prog 16 #[.pointer (some ⟨p, 0, none⟩), .int .i64 n] w fun e w' => ∃ x, e = .returned (.tuple #[x, .nilIface]) ∧ IntsOwn w' x ((dueT (laterT now n) ts).map (·.1)) ∧ Turned w B p v (laterT now n) (restT (laterT now n) ts) w' := by
  have HS := Lib.hid (span_yes n h0 h1 w)
  have HLT := Lib.hid (later_any now n hn0 hn1 h0 h1 w)
  generalize laterT now n = t at *
  obtain ⟨d, hd⟩ : ∃ d, d = cnt (fun x => decide (x.2 ≤ t)) ts := ⟨_, rfl⟩
  have hdl : d ≤ ts.length := by rw [hd]; exact cnt_le _ _
  have HTD : Hid (dueT t ts = ts.take d ∧ restT t ts = ts.drop d) := Lib.hid ⟨by rw [hd, cnt_take]; rfl, by rw [hd, cnt_drop]; rfl⟩
  rw [HTD.out.1, HTD.out.2]
  have c0 := h.c0
  have f0 := h.fr 0
  have HW := Lib.hid (h.clock t)
  have HO : Hid (Off (Wrote p v) w (w.setCell ⟨p, 0, none⟩ (.int .i64 t))) := Lib.hid (Off.set _ _ _ _ (.inl rfl))
  have HCD := Lib.hid (countDue_any B p t v ts _ (h.clock t) hl)
  rw [← hd] at HCD
  have HD := Lib.hid hdl
  have HL := Lib.hid hl
  clear h h0 h1 hn0 hn1 hd
  go_enter Tryd.func16, Tryd.ntmps16
  go_wp2_with fail
  refine HS.out.mono ?_
  rintro e w1 ⟨rfl, rfl⟩
  go_wp2_with fail
  refine HLT.out.mono ?_
  rintro e w1 ⟨rfl, rfl⟩
  go_wp2_with fail
  clear c0 f0
  generalize w.setCell ⟨p, 0, none⟩ (.int .i64 t) = W at *
  refine HCD.out.mono ?_
  rintro e w2 ⟨rfl, hb2⟩
  have HW2 := Lib.hid (HW.out.on hb2)
  have HB2 := Lib.hid hb2
  have c1 := HW2.out.c1
  obtain ⟨ao, cap, rfl, hc, hm, hcell⟩ := HW2.out.form
  have hm' : cap ≤ 9223372036854775807 := by unfold maxLen at hm; omega
  have hdc : (d : Int) ≤ (cap : Int) := by omega
  have HI := Lib.hid (idsOf_any ao cap (ts.take d) w2 (fun i hi => by
    obtain ⟨g, e1, e2, e3⟩ := hcell i (by simp at hi; omega)
    rw [List.getElem_take]
    exact ⟨g, e1, e2, e3⟩) (by simp; omega))
  rw [show (ts.take d).length = d by simp; omega] at HI
  have hlm : ((ts.take d).map (·.1)).length = d := by simp; omega
  obtain ⟨ids, hids⟩ : ∃ ids, ids = (ts.take d).map (·.1) := ⟨_, rfl⟩
  rw [← hids] at HI hlm
  have HIDS := Lib.hid hids
  clear hcell hb2 hlm hids
  go_wp2_with fail
  refine HI.out.mono ?_
  rintro e w3 ⟨g, rfl, ho3, hb3⟩
  have HI3 : Hid (IntsOwn w3 (.slice (some ⟨g, 0, none⟩) ids.length ids.length) ids) := Lib.hid ⟨_, ho3⟩
  have HW3 := Lib.hid (HW2.out.on hb3)
  have HB3 := Lib.hid hb3
  have c1' := HW3.out.c1
  have HDL := Lib.hid (delete_any B _ ts 0 d w3 HW3.out.own (Nat.zero_le _) HD.out)
  clear ho3 hb3
  go_wp2_with fail
  refine HDL.out.mono ?_
  rintro e w4 ⟨v', rfl, ho, hq, hk⟩
  obtain ⟨s1, s2⟩ := HW3.out.row_store hk
  have HR := Lib.hid (HW3.out.row ho hk (fun k e => .inl (hq ▸ e)))
  have HI4 : Hid (IntsOwn (w4.setCell ⟨p, 1, none⟩ v') (.slice (some ⟨g, 0, none⟩) ids.length ids.length) ids) := by
    obtain ⟨v2, _, h2, _⟩ := HR.out
    exact Lib.hid (HI3.out.off HW3.out h2)
  rw [List.take_zero, List.nil_append] at HR ho
  obtain ⟨ao', cap', rfl⟩ := row_slice ho
  clear ho hq hk c1 c1'
  have HZ := Lib.hid (Turned.pre (HB2.out.trans (HB3.out.mono HB2.out.size)) HR.out)
  generalize (ts.drop d).length = m at *
  go_wp2
  go_ret2
  exact ⟨_, rfl, by rw [← HIDS.out]; exact HI4.out, Turned.trans HO.out (fun k e => .inl e) HZ.out⟩
end Go.Proofs.YtfefkkojdcipcaaDoor
