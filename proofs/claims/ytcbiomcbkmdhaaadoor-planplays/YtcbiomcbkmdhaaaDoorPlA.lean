/- Both Plans side by side: what is needed for PlanPlays. -/
import Derived.Test.YtcbiomcbkmdhaaaDoorR4
import Derived.StillTailTactics
namespace Go.Proofs.YtcbiomcbkmdhaaaDoor
open Go.RowKit Go.Extern.Stop Go.Stop Go.Extern

theorem PlAt.weak {w : World} {B B' p : Nat} {v : Value} {ts : List (Int × Int)} (h : PlAt w B' p v ts) (hb : B ≤ B') : PlAt w B p v ts := ⟨Nat.le_trans hb h.base, h.obj, own_base h.own hb⟩
theorem keep_r {w w' : World} {B p B2 q : Nat} {v ve vd : Value} {ts ts2 : List (Int × Int)} (hp : PlAt w B p v ts) (hr : RpAt w B2 q ve vd ts2) (ho : Off (fun k => v.ownBlock = some k) w w') : RpAt w' B2 q ve vd ts2 :=
  hr.off ho (fun e => row_no hp.own hr.obj (by decide) e) (fun k e1 e2 => rows_apart hp.own hr.ev (by decide) k e2 e1) (fun k e1 e2 => rows_apart hp.own hr.du (by decide) k e2 e1)
theorem keep_p {w w' : World} {B p B2 q : Nat} {v ve vd : Value} {ts ts2 : List (Int × Int)} (hp : PlAt w B p v ts) (hr : RpAt w B2 q ve vd ts2) (ho : Off (fun k => vd.ownBlock = some k) w w') : PlAt w' B p v ts :=
  hp.off ho (fun e => row_no hr.du hp.obj (by decide) e) (fun k e1 e2 => rows_apart hr.du hp.own (by decide) k e2 e1)
theorem off_belowR {w w' : World} {B q : Nat} {ve vd : Value} {ts : List (Int × Int)} (h : RpAt w B q ve vd ts) (ho : Off (fun k => vd.ownBlock = some k) w w') : Below B w w' :=
  ho.below (by have := h.lt; have := h.base; omega) (fun k e => (h.du.lt k e).1)
/-- Both Plans, in the same state. -/
def Both (W : World) (p q : Nat) (v ve vd : Value) (l : List Int) (ts : List (Int × Int)) (w : World) : Prop := PlAt w W.heap.size p v ts ∧ RpAt w W.heap.size q ve vd ts ∧ PollsOk l ts ∧ Below W.heap.size W w
theorem Both.on {W w w' : World} {p q : Nat} {v ve vd : Value} {l : List Int} {ts : List (Int × Int)} (h : Both W p q v ve vd l ts w) (hb : Below w.heap.size w w') : Both W p q v ve vd l ts w' := ⟨h.1.on hb, h.2.1.on hb, h.2.2.1, h.2.2.2.trans (hb.mono h.2.2.2.size)⟩
/-- Between the two calls of Done. -/
def Half (W : World) (p q : Nat) (v ve vd : Value) (l : List Int) (ts ts2 : List (Int × Int)) (w : World) : Prop := PlAt w W.heap.size p v ts2 ∧ RpAt w W.heap.size q ve vd ts ∧ PollsOk l ts ∧ PollsOk l ts2 ∧ Below W.heap.size W w
theorem bdone_yes {W w : World} {p q : Nat} {v ve vd : Value} {l : List Int} {ts : List (Int × Int)} (h : Both W p q v ve vd l ts w) (i now : Int) (hr : doneR ts i now) :
    Calls Tryd.prog 10 #[.pointer (some ⟨p, 0, none⟩), .int .i64 i, .int .i64 now] w fun e w' => e = .returned .nilIface ∧ Half W p q v ve vd l ts (doneA ts i now) w' := by
  refine (done_any _ p v l ts i now w h.1 h.2.2.1).mono ?_
  rintro e w' ⟨x, rfl, hp, ho, ⟨_, rfl⟩ | ⟨hno, _⟩⟩
  · exact ⟨rfl, hp, keep_r h.1 h.2.1 ho, h.2.2.1, h.2.2.1.doneA _ _, h.2.2.2.trans (off_below h.1 ho)⟩
  · exact absurd hr hno
/-- The code of Done's refusal. -/
def dcode (ts : List (Int × Int)) (i : Int) : Int := if hasP ts i = true then 1 else 7
theorem bdone_no {W w : World} {p q : Nat} {v ve vd : Value} {l : List Int} {ts : List (Int × Int)} (h : Both W p q v ve vd l ts w) (i now : Int) (hr : ¬ doneR ts i now) :
    Calls Tryd.prog 10 #[.pointer (some ⟨p, 0, none⟩), .int .i64 i, .int .i64 now] w fun e w' => ∃ b : Nat, e = .returned (.iface 70 (.pointer (some ⟨b, 0, none⟩))) ∧ PErr w' i (dcode ts i) (.iface 70 (.pointer (some ⟨b, 0, none⟩))) ∧ Both W p q v ve vd l ts w' := by
  refine (done_any _ p v l ts i now w h.1 h.2.2.1).mono ?_
  rintro e w' ⟨x, rfl, hp, ho, ⟨hr', rfl⟩ | ⟨_, hx⟩⟩
  · exact absurd hr' hr
  · obtain ⟨b, rfl⟩ := hx.form
    have hd : doneA ts i now = ts := by unfold doneA; rw [if_neg hr]
    rw [hd] at hp
    exact ⟨b, rfl, hx, hp, keep_r h.1 h.2.1 ho, h.2.2.1, h.2.2.2.trans (off_below h.1 ho)⟩
theorem hrdone_yes {W w : World} {p q : Nat} {v ve vd : Value} {l : List Int} {ts : List (Int × Int)} {i now : Int} (h : Half W p q v ve vd l ts (doneA ts i now) w) (hr : doneR ts i now) :
    Calls Tryd.prog 11 #[.pointer (some ⟨q, 0, none⟩), .int .i64 i, .int .i64 now] w fun e w' => e = .returned e0 ∧ Both W p q v ve vd l (doneA ts i now) w' := by
  obtain ⟨hp, hq, hk, hk2, hb⟩ := h
  obtain ⟨⟨h0, h1⟩, h2, h3⟩ := id hr
  obtain ⟨n, rfl⟩ : ∃ n : Nat, i = (n : Int) := ⟨i.toNat, by omega⟩
  have hn : n < ts.length := by omega
  have he := hk.every n (by rw [← hk.len]; exact hn)
  have hbb := every_get hk.2.1 n (by rw [← hk.len]; exact hn)
  rw [← he] at hbb
  have hd : doneA ts (n : Int) now = doneP ts n now := by unfold doneA; rw [if_pos hr, Int.toNat_natCast]
  refine (rdone_ok _ q ve vd ts n now w hq hn h2 h3 (by omega) (by omega)).mono ?_
  rintro e w' ⟨rfl, h4, h5⟩
  exact ⟨rfl, keep_p hp hq h5, by rw [hd]; exact h4, hk2, hb.trans (off_belowR hq h5)⟩
theorem brdone_no {W w : World} {p q : Nat} {v ve vd : Value} {l : List Int} {ts : List (Int × Int)} (h : Both W p q v ve vd l ts w) (i now : Int) (hr : ¬ doneR ts i now) :
    Calls Tryd.prog 11 #[.pointer (some ⟨q, 0, none⟩), .int .i64 i, .int .i64 now] w fun e w' => ∃ g : Nat, e = .returned (.agg #[.int .i64 (dcode ts i), .slice (some ⟨g, 0, none⟩) 1 1]) ∧ StepsOwn w' (.slice (some ⟨g, 0, none⟩) 1 1) [(sPlan, i)] ∧ Below w.heap.size w w' := by
  by_cases hi : hasP ts i = true
  · unfold dcode
    rw [if_pos hi]
    refine (rdone_bad _ q ve vd ts i now w h.2.1 hi (by
      unfold doneR at hr
      have : 0 ≤ i ∧ i < (ts.length : Int) := by simpa [hasP] using hi
      omega)).mono ?_
    rintro e w' ⟨g, rfl, hs, hb⟩
    exact ⟨g, rfl, hs, hb⟩
  · unfold dcode
    rw [if_neg hi]
    refine (rdone_none _ q ve vd ts i now w h.2.1 (by simpa using hi)).mono ?_
    rintro e w' ⟨g, rfl, hs, hb⟩
    exact ⟨g, rfl, hs, hb⟩
theorem dcode_ne (ts : List (Int × Int)) (i : Int) : dcode ts i ≠ 0 := by
  unfold dcode
  split <;> decide
/-- A wrong interval: what both constructors answer. -/
theorem new_wrong {l : List Int} (hl : l.length ≤ 16) (j : Nat) (hj : j < l.length) (hbad : l[j] < 1 ∨ 10000 < l[j]) (hok : EveryOk (l.take j)) (v : Value) (w : World) (hv : IntsAt w v l) : Calls Tryd.prog 6 #[v] w (NewNo w (j : Int) 1) := by
  refine (new_any v l w hv hl).mono ?_
  rintro e w' (⟨hok', _⟩ | ⟨j', hj', hbad', hok', h⟩)
  · exact absurd (every_get hok' j hj) (by omega)
  · have h1 : ¬ j < j' := fun h1 => absurd (hok' l[j] (List.mem_take_iff_getElem.2 ⟨j, by omega, rfl⟩)) (by omega)
    have h2 : ¬ j' < j := fun h2 => absurd (hok l[j'] (List.mem_take_iff_getElem.2 ⟨j', by omega, rfl⟩)) (by omega)
    obtain rfl : j = j' := by omega
    exact h
theorem rnew_wrong {l : List Int} (hl : l.length ≤ 16) (j : Nat) (hj : j < l.length) (hbad : l[j] < 1 ∨ 10000 < l[j]) (hok : EveryOk (l.take j)) (v : Value) (w : World) (hv : IntsAt w v l) : Calls Tryd.prog 7 #[v] w (RNewNo w (j : Int) 1) := by
  refine (rnew_any v l w hv hl).mono ?_
  rintro e w' (⟨hok', _⟩ | ⟨j', hj', hbad', hok', h⟩)
  · exact absurd (every_get hok' j hj) (by omega)
  · have h1 : ¬ j < j' := fun h1 => absurd (hok' l[j] (List.mem_take_iff_getElem.2 ⟨j, by omega, rfl⟩)) (by omega)
    have h2 : ¬ j' < j := fun h2 => absurd (hok l[j'] (List.mem_take_iff_getElem.2 ⟨j', by omega, rfl⟩)) (by omega)
    obtain rfl : j = j' := by omega
    exact h
theorem new_fine {l : List Int} (hl : l.length ≤ 16) (hok : EveryOk l) (v : Value) (w : World) (hv : IntsAt w v l) : Calls Tryd.prog 6 #[v] w fun e w' => ∃ p v', e = .returned (.tuple #[.pointer (some ⟨p, 0, none⟩), .nilIface]) ∧ PlAt w' w.heap.size p v' (newP l) ∧ Below w.heap.size w w' := by
  refine (new_any v l w hv hl).mono ?_
  rintro e w' (⟨_, h⟩ | ⟨j', hj', hbad', hok', h⟩)
  · exact h
  · exact absurd (every_get hok j' hj') (by omega)
theorem rnew_fine {l : List Int} (hl : l.length ≤ 16) (hok : EveryOk l) (v : Value) (w : World) (hv : IntsAt w v l) : Calls Tryd.prog 7 #[v] w (RNewOk w l) := by
  refine (rnew_any v l w hv hl).mono ?_
  rintro e w' (⟨_, h⟩ | ⟨j', hj', hbad', hok', h⟩)
  · exact h
  · exact absurd (every_get hok j' hj') (by omega)
/-- Either both constructors refuse alike, or all intervals are right. -/
theorem new_both (l : List Int) : (∃ x c : Int, c ≠ 0 ∧ (∀ (a : Option Addr) (n : Nat) (W : World), IntsAt W (.slice a l.length n) l → Calls Tryd.prog 6 #[.slice a l.length n] W (NewNo W x c)) ∧ ∀ (a : Option Addr) (n : Nat) (W : World), IntsAt W (.slice a l.length n) l → Calls Tryd.prog 7 #[.slice a l.length n] W (RNewNo W x c)) ∨ (l.length ≤ 16 ∧ EveryOk l) := by
  by_cases h : 16 < l.length
  · exact .inl ⟨16, 3, by decide, fun a n W _ => new_long a n l.length W h, fun a n W _ => rnew_long a n l.length W h⟩
  · rcases wrongAt_is l 0 with ⟨_, hok⟩ | ⟨j, hj, _, hbad, hok⟩
    · exact .inr ⟨by omega, hok⟩
    · exact .inl ⟨j, 1, by decide, fun a n W hv => new_wrong (by omega) j hj hbad hok _ W hv, fun a n W hv => rnew_wrong (by omega) j hj hbad hok _ W hv⟩
/-- The row that was handed to New, and what the caller writes into it. -/
def InRow (w : World) (B : Nat) (u : Value) (n : Nat) : Prop := ∃ xs : List Int, xs.length = n ∧ w.ownsRow B 3 1 u n (icells xs)
theorem InRow.on {w w' : World} {B n : Nat} {u : Value} (h : InRow w B u n) (hb : Below w.heap.size w w') : InRow w' B u n := by
  obtain ⟨xs, h1, h2⟩ := h
  exact ⟨xs, h1, ownsRow_off h2 (Off.of_below (fun _ => False) hb) (fun _ _ f => f)⟩
theorem InRow.cell {w : World} {B n g c : Nat} (h : InRow w B (.slice (some ⟨g, 0, none⟩) n c) n) (i : Nat) (hi : i < n) : (∃ x, w.cell? ⟨g, i, none⟩ = some x) ∧ w.frozen? ⟨g, i, none⟩ = false := by
  obtain ⟨xs, h1, h2⟩ := h
  exact ⟨⟨_, own_int h2 h1 i hi⟩, h2.frozenAt i⟩
theorem InRow.set {w : World} {B n g c : Nat} (h : InRow w B (.slice (some ⟨g, 0, none⟩) n c) n) (i : Nat) (y : Int) : InRow (w.setCell ⟨g, i, none⟩ (.int .i64 y)) B (.slice (some ⟨g, 0, none⟩) n c) n := by
  obtain ⟨xs, h1, h2⟩ := h
  refine ⟨xs.set i y, by simpa using h1, ?_⟩
  have := (h2.stored i (.int .i64 y)).1
  rw [icells_set] at this
  exact this
theorem InRow.form {w : World} {B n : Nat} {u : Value} (h : InRow w B u n) (hn : 0 < n) : ∃ g c, u = .slice (some ⟨g, 0, none⟩) n c ∧ B ≤ g ∧ g < w.heap.size := by
  obtain ⟨xs, h1, h2⟩ := h
  exact h2.form hn
end Go.Proofs.YtcbiomcbkmdhaaaDoor
