/- wire.Reader's U, I, B, Bytes and Done: what they answer and where the Reader stands then, for every row of bytes, every place and every count. -/
import Derived.Test.YtpocjmlkhophoaaGreatDoorRead
namespace Go.Proofs.YtpocjmlkhophoaaGreatDoor
open Go.RowKit Go.Extern.Stop Go.Stop Go.Extern

/-- The code with which a number of n bytes is refused. -/
def NumBad (left : Nat) (n c : Int) : Prop := (¬ (1 ≤ n ∧ n ≤ 6) ∧ c = 1) ∨ ((1 ≤ n ∧ n ≤ 6) ∧ (left : Int) < n ∧ c = 2)

theorem WireErr.on {w w' : World} {p : Nat} {c : Int} {v : Value} (h : WireErr w p c v) (hb : Below w.heap.size w w') : WireErr w' p c v := Chain.on hb h
theorem WireErr.iface {w : World} {p : Nat} {c : Int} {v : Value} (h : WireErr w p c v) : ∃ b : Nat, v = .iface 145 (.pointer (some ⟨b, 0, none⟩)) ∧ b < w.heap.size := by
  obtain ⟨b, _, e, hb, _⟩ := h
  exact ⟨b, e, hb⟩
theorem WireErr.off {w w' : World} {S : Nat → Prop} {p : Nat} {c : Int} {b : Nat} (h : WireErr w p c (.iface 145 (.pointer (some ⟨b, 0, none⟩)))) (hk : Off S w w') (hs : ¬ S b) : WireErr w' p c (.iface 145 (.pointer (some ⟨b, 0, none⟩))) := by
  obtain ⟨b', err, e, hb, h0, h1, h2, h3⟩ := h
  simp only [Value.iface.injEq, Value.pointer.injEq, Option.some.injEq, Addr.mk.injEq, true_and, and_true] at e
  subst e
  have hbk := hk.block b hb hs
  exact ⟨b, err, rfl, Nat.lt_of_lt_of_le hb hk.size, (World.cell?_of_block (a := ⟨b, 0, none⟩) hbk).trans h0, (World.cell?_of_block (a := ⟨b, 1, none⟩) hbk).trans h1, (World.cell?_of_block (a := ⟨b, 2, none⟩) hbk).trans h2, h3⟩

set_option maxRecDepth 100000 in
theorem number_bad (B r : Nat) (v : Value) (l : List UInt8) (p : Nat) (n c : Int) (w : World) (h : RdAt w B r v l p) (hc : NumBad (l.length - p) n c) :
    Calls Tryz.prog 171 #[.pointer (some ⟨r, 0, none⟩), .int .i64 n] w fun e w' => ∃ x, e = .returned (.tuple #[.slice none 0 0, x]) ∧ WireErr w' p c x ∧ Below w.heap.size w w' := by
  have H := Lib.hid h
  clear h
  rcases hc with ⟨hn, rfl⟩ | ⟨hn, hs, rfl⟩
  · have hd : decide (1 ≤ n ∧ n ≤ 6) = false := by simpa using hn
    clear hn
    go_enter Tryz.func171, Tryz.ntmps171
    go_wp2_with fail
    refine (fits_any n w).mono ?_
    rintro e w1 ⟨rfl, rfl⟩
    rw [hd]
    go_wp2_with fail
    refine (fault_any B r v l p 1 w H.out).mono ?_
    rintro e w2 ⟨x, rfl, hx, hb⟩
    obtain ⟨_, _, rfl, _⟩ := id hx
    have HX := Lib.hid hx
    have HB := Lib.hid hb
    clear hb hx
    go_wp2
    go_ret2
    exact ⟨_, rfl, HX.out, HB.out⟩
  · have hd : decide (1 ≤ n ∧ n ≤ 6) = true := by simpa using hn
    have HS := Lib.hid hs
    clear hn hs
    go_enter Tryz.func171, Tryz.ntmps171
    go_wp2_with fail
    refine (fits_any n w).mono ?_
    rintro e w1 ⟨rfl, rfl⟩
    rw [hd]
    go_wp2_with fail
    refine (take_short B r v l p n w H.out HS.out).mono ?_
    rintro e w2 ⟨x, rfl, hx, hb⟩
    obtain ⟨_, _, rfl, _⟩ := id hx
    have HX := Lib.hid hx
    have HB := Lib.hid hb
    clear hb hx
    go_wp2
    go_ret2
    exact ⟨_, rfl, HX.out, HB.out⟩

theorem cut_length (l : List UInt8) (p n : Nat) (hn : p + n ≤ l.length) : ((l.drop p).take n).length = n := by simp; omega

/-- What take hands out. -/
def TakeIs (w : World) (B r : Nat) (v : Value) (l : List UInt8) (p n : Nat) (e : Ending) (w' : World) : Prop :=
  (∃ x, e = .returned (.tuple #[x, .nilIface]) ∧ BytesAt w' x ((l.drop p).take n)) ∧ RdAt w' B r v l (p + n) ∧ Off (fun k => k = r) w w'

set_option maxRecDepth 100000 in
theorem number_ok (B r : Nat) (v : Value) (l : List UInt8) (p n : Nat) (w : World) (h : RdAt w B r v l p) (h1 : 1 ≤ n) (h2 : n ≤ 6) (hn : p + n ≤ l.length) :
    Calls Tryz.prog 171 #[.pointer (some ⟨r, 0, none⟩), .int .i64 (n : Int)] w (TakeIs w B r v l p n) := by
  have H := Lib.hid h
  have HN := Lib.hid hn
  clear h hn
  have hd : decide (1 ≤ (n : Int) ∧ (n : Int) ≤ 6) = true := by simp; omega
  clear h1 h2
  go_enter Tryz.func171, Tryz.ntmps171
  go_wp2_with fail
  refine (fits_any n w).mono ?_
  rintro e w1 ⟨rfl, rfl⟩
  rw [hd]
  go_wp2_with fail
  refine (take_ok B r v l p n w H.out HN.out).mono ?_
  rintro e w2 ⟨⟨x, rfl, hx⟩, h3⟩
  obtain ⟨ax, cx, hxe, _⟩ := id hx
  rw [cut_length l p n HN.out] at hxe
  subst hxe
  have HX := Lib.hid hx
  have H3 := Lib.hid h3
  clear hx h3
  go_wp2
  go_ret2
  exact ⟨⟨_, rfl, HX.out⟩, H3.out⟩

/-- What a number that is read answers. -/
def NumIs (w : World) (B r : Nat) (v : Value) (l : List UInt8) (p n : Nat) (x : Int) (e : Ending) (w' : World) : Prop :=
  e = .returned (.tuple #[.int .i64 x, .nilIface]) ∧ RdAt w' B r v l (p + n) ∧ Off (fun k => k = r) w w'
/-- What a number that is refused answers. -/
def BadIs (w : World) (p : Nat) (c : Int) (z : Value) (e : Ending) (w' : World) : Prop := ∃ x, e = .returned (.tuple #[z, x]) ∧ WireErr w' p c x ∧ Below w.heap.size w w'

set_option maxRecDepth 100000 in
theorem u_bad (B r : Nat) (v : Value) (l : List UInt8) (p : Nat) (n c : Int) (w : World) (h : RdAt w B r v l p) (hc : NumBad (l.length - p) n c) :
    Calls Tryz.prog 167 #[.pointer (some ⟨r, 0, none⟩), .int .i64 n] w (BadIs w p c (.int .i64 0)) := by
  have H := Lib.hid h
  have HC := Lib.hid hc
  clear h hc
  go_enter Tryz.func167, Tryz.ntmps167
  go_wp2_with fail
  refine (number_bad B r v l p n c w H.out HC.out).mono ?_
  rintro e w2 ⟨x, rfl, hx, hb⟩
  obtain ⟨_, _, rfl, _⟩ := id hx
  have HX := Lib.hid hx
  have HB := Lib.hid hb
  clear hb hx
  go_wp2
  go_ret2
  exact ⟨_, rfl, HX.out, HB.out⟩
set_option maxRecDepth 100000 in
theorem i_bad (B r : Nat) (v : Value) (l : List UInt8) (p : Nat) (n c : Int) (w : World) (h : RdAt w B r v l p) (hc : NumBad (l.length - p) n c) :
    Calls Tryz.prog 173 #[.pointer (some ⟨r, 0, none⟩), .int .i64 n] w (BadIs w p c (.int .i64 0)) := by
  have H := Lib.hid h
  have HC := Lib.hid hc
  clear h hc
  go_enter Tryz.func173, Tryz.ntmps173
  go_wp2_with fail
  refine (u_bad B r v l p n c w H.out HC.out).mono ?_
  rintro e w2 ⟨x, rfl, hx, hb⟩
  obtain ⟨_, _, rfl, _⟩ := id hx
  have HX := Lib.hid hx
  have HB := Lib.hid hb
  clear hb hx
  go_wp2
  go_ret2
  exact ⟨_, rfl, HX.out, HB.out⟩


set_option maxRecDepth 100000 in
theorem u_ok (B r : Nat) (v : Value) (l : List UInt8) (p n : Nat) (w : World) (h : RdAt w B r v l p) (h1 : 1 ≤ n) (h2 : n ≤ 6) (hn : p + n ≤ l.length) :
    Calls Tryz.prog 167 #[.pointer (some ⟨r, 0, none⟩), .int .i64 (n : Int)] w (NumIs w B r v l p n (leNum ((l.drop p).take n) : Nat)) := by
  have H := Lib.hid h
  have HN := Lib.hid (And.intro (And.intro h1 h2) hn)
  clear h hn h1 h2
  go_enter Tryz.func167, Tryz.ntmps167
  go_wp2_with fail
  refine (number_ok B r v l p n w H.out HN.out.1.1 HN.out.1.2 HN.out.2).mono ?_
  rintro e w2 ⟨⟨x, rfl, hx⟩, h3⟩
  obtain ⟨ax, cx, hxe, _⟩ := id hx
  rw [cut_length l p n HN.out.2] at hxe
  subst hxe
  have HX := Lib.hid hx
  have H3 := Lib.hid h3
  clear hx h3
  go_wp2_with fail
  refine (from_little _ _ w2 HX.out (by rw [cut_length l p n HN.out.2]; exact HN.out.1.1) (by rw [cut_length l p n HN.out.2]; exact HN.out.1.2)).mono ?_
  rintro e w3 ⟨rfl, rfl⟩
  go_wp2
  go_ret2
  exact ⟨rfl, H3.out⟩
/-- A number of n bytes with a sign. -/
def sgnNum (n v : Nat) : Int := if 256 ^ n ≤ 2 * v then (v : Int) - ((256 ^ n : Nat) : Int) else (v : Int)

theorem span_facts (n : Nat) (h1 : 1 ≤ n) (h2 : n ≤ 6) : ∃ s : Nat, 256 ^ n = 2 * s ∧ 128 ≤ s ∧ s ≤ 140737488355328 := by
  match n, h1, h2 with
  | 1, _, _ => exact ⟨128, by decide, by decide, by decide⟩
  | 2, _, _ => exact ⟨32768, by decide, by decide, by decide⟩
  | 3, _, _ => exact ⟨8388608, by decide, by decide, by decide⟩
  | 4, _, _ => exact ⟨2147483648, by decide, by decide, by decide⟩
  | 5, _, _ => exact ⟨549755813888, by decide, by decide, by decide⟩
  | 6, _, _ => exact ⟨140737488355328, by decide, by decide, by decide⟩
  | n + 7, _, h2 => omega

set_option maxRecDepth 100000 in
theorem i_ok (B r : Nat) (v : Value) (l : List UInt8) (p n : Nat) (w : World) (h : RdAt w B r v l p) (h1 : 1 ≤ n) (h2 : n ≤ 6) (hn : p + n ≤ l.length) :
    Calls Tryz.prog 173 #[.pointer (some ⟨r, 0, none⟩), .int .i64 (n : Int)] w (NumIs w B r v l p n (sgnNum n (leNum ((l.drop p).take n)))) := by
  have H := Lib.hid h
  have HN := Lib.hid (And.intro (And.intro h1 h2) hn)
  obtain ⟨s, hs, hs1, hs2⟩ := span_facts n h1 h2
  have hx : leNum ((l.drop p).take n) < 2 * s := by
    have := leNum_lt ((l.drop p).take n)
    rw [cut_length l p n hn, hs] at this
    exact this
  have hsp := Lib.hid (span_any n h1 h2)
  rw [hs] at hsp
  have hsg : sgnNum n (leNum ((l.drop p).take n)) = if s ≤ leNum ((l.drop p).take n) then (leNum ((l.drop p).take n) : Int) - ((2 * s : Nat) : Int) else (leNum ((l.drop p).take n) : Int) := by
    unfold sgnNum
    rw [hs]
    by_cases hq : s ≤ leNum ((l.drop p).take n)
    · rw [if_pos hq, if_pos (by omega)]
    · rw [if_neg hq, if_neg (by omega)]
  rw [hsg]
  clear h hn h1 h2 hs hsg
  have hu := Lib.hid (u_ok B r v l p n w H.out HN.out.1.1 HN.out.1.2 HN.out.2)
  generalize leNum ((l.drop p).take n) = y at *
  have hd : IntKind.i64.wrap (((2 * s : Nat) : Int).tdiv 2) = (s : Int) := by
    rw [Int.tdiv_eq_ediv_of_nonneg (by omega), show ((2 * s : Nat) : Int) / 2 = (s : Int) by omega]
    exact IntWalk.i64_in _ (by omega)
  generalize h2s : ((2 * s : Nat) : Int) = S at *
  by_cases hq : s ≤ y
  · rw [if_pos hq]
    go_enter Tryz.func173, Tryz.ntmps173
    go_wp2_with fail
    refine hu.out.mono ?_
    rintro e w2 ⟨rfl, h3⟩
    have H3 := Lib.hid h3
    clear h3
    go_wp2_with fail
    refine (hsp.out w2).mono ?_
    rintro e w3 ⟨rfl, rfl⟩
    go_wp2_with fail
    refine (hsp.out w2).mono ?_
    rintro e w3 ⟨rfl, rfl⟩
    go_wp2
    go_ret2
    exact ⟨rfl, H3.out⟩
  · rw [if_neg hq]
    go_enter Tryz.func173, Tryz.ntmps173
    go_wp2_with fail
    refine hu.out.mono ?_
    rintro e w2 ⟨rfl, h3⟩
    have H3 := Lib.hid h3
    clear h3
    go_wp2_with fail
    refine (hsp.out w2).mono ?_
    rintro e w3 ⟨rfl, rfl⟩
    go_wp2
    go_ret2
    exact ⟨rfl, H3.out⟩

/-- The code with which n bytes are refused. -/
def BytesBad (left : Nat) (n c : Int) : Prop := (n < 0 ∧ c = 1) ∨ (0 ≤ n ∧ (left : Int) < n ∧ c = 2)

set_option maxRecDepth 100000 in
theorem bytes_bad (B r : Nat) (v : Value) (l : List UInt8) (p : Nat) (n c : Int) (w : World) (h : RdAt w B r v l p) (hc : BytesBad (l.length - p) n c) :
    Calls Tryz.prog 140 #[.pointer (some ⟨r, 0, none⟩), .int .i64 n] w (BadIs w p c (.slice none 0 0)) := by
  have H := Lib.hid h
  clear h
  rcases hc with ⟨hn, rfl⟩ | ⟨hn, hs, rfl⟩
  · go_enter Tryz.func140, Tryz.ntmps140
    go_wp2_with fail
    refine (fault_any B r v l p 1 w H.out).mono ?_
    rintro e w2 ⟨x, rfl, hx, hb⟩
    obtain ⟨_, _, rfl, _⟩ := id hx
    have HX := Lib.hid hx
    have HB := Lib.hid hb
    clear hb hx
    go_wp2
    go_ret2
    exact ⟨_, rfl, HX.out, HB.out⟩
  · have HS := Lib.hid hs
    clear hs
    go_enter Tryz.func140, Tryz.ntmps140
    go_wp2_with fail
    refine (take_short B r v l p n w H.out HS.out).mono ?_
    rintro e w2 ⟨x, rfl, hx, hb⟩
    obtain ⟨_, _, rfl, _⟩ := id hx
    have HX := Lib.hid hx
    have HB := Lib.hid hb
    clear hb hx
    go_wp2
    go_ret2
    exact ⟨_, rfl, HX.out, HB.out⟩

theorem ownsRow_base {w : World} {b b' : Nat} {e : TypeId} {size : Nat} {v : Value} {n : Nat} {xs : List Value} (h : w.ownsRow b e size v n xs) (hb : b' ≤ b) : w.ownsRow b' e size v n xs := by
  refine ⟨h.1, ?_⟩
  rcases h.2 with h | ⟨g, cap, cur, hv, hg, h⟩
  · exact .inl h
  · exact .inr ⟨g, cap, cur, hv, Nat.le_trans hb hg, h⟩

/-- What Bytes hands out: a new row. -/
def RowIs (w : World) (B r : Nat) (v : Value) (l : List UInt8) (p n : Nat) (e : Ending) (w' : World) : Prop :=
  (∃ x, e = .returned (.tuple #[x, .nilIface]) ∧ w'.ownsRow w.heap.size 5 1 x n (bcells ((l.drop p).take n))) ∧ RdAt w' B r v l (p + n) ∧ Off (fun k => k = r) w w'

set_option maxRecDepth 100000 in
theorem bytes_ok (B r : Nat) (v : Value) (l : List UInt8) (p n : Nat) (w : World) (h : RdAt w B r v l p) (hn : p + n ≤ l.length) :
    Calls Tryz.prog 140 #[.pointer (some ⟨r, 0, none⟩), .int .i64 (n : Int)] w (RowIs w B r v l p n) := by
  have H := Lib.hid h
  have HN := Lib.hid hn
  have hll := h.len
  clear h
  go_enter Tryz.func140, Tryz.ntmps140
  go_wp2_with fail
  refine (take_ok B r v l p n w H.out HN.out).mono ?_
  rintro e w2 ⟨⟨x, rfl, hx⟩, h3⟩
  obtain ⟨ax, cx, hxe, _⟩ := id hx
  rw [cut_length l p n HN.out] at hxe
  subst hxe
  have HX := Lib.hid hx
  have H3 := Lib.hid h3
  clear hx h3
  go_wp2_with fail
  refine (clone_any _ _ w2 HX.out (by rw [cut_length l p n HN.out]; omega)).mono ?_
  rintro e w3 ⟨y, rfl, hown, hb⟩
  rw [cut_length l p n HN.out] at hown
  obtain ⟨ay, cy, hye⟩ : ∃ ay cy, y = .slice ay n cy := by
    rcases hown.2 with ⟨hv, h0⟩ | ⟨g, cap, cur, hv, _⟩
    · exact ⟨none, 0, by rw [hv, h0]⟩
    · exact ⟨_, _, hv⟩
  subst hye
  have HO := Lib.hid hown
  have HB := Lib.hid hb
  clear hown hb
  go_wp2
  go_ret2
  exact ⟨⟨_, rfl, ownsRow_base HO.out H3.out.2.size⟩, H3.out.1.on HB.out, H3.out.2.trans (Off.of_below _ HB.out)⟩

end Go.Proofs.YtpocjmlkhophoaaGreatDoor
