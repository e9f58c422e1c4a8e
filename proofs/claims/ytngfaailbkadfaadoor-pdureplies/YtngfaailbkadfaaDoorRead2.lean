/- wire.Reader's U, I, B, Bytes and Done: what they answer and where the Reader stands then, for every row of bytes, every place and every count. -/
import Derived.Test.YtngfaailbkadfaaDoorRead
namespace Go.Proofs.YtngfaailbkadfaaDoor
open Go.RowKit Go.Extern.Stop Go.Stop Go.Extern

/-- The code with which a number of n bytes is refused. -/
def NumBad (left : Nat) (n c : Int) : Prop := (¬ (1 ≤ n ∧ n ≤ 6) ∧ c = 1) ∨ ((1 ≤ n ∧ n ≤ 6) ∧ (left : Int) < n ∧ c = 2)

theorem WireErr.on {w w' : World} {p : Nat} {c : Int} {v : Value} (h : WireErr w p c v) (_hb : Below w.heap.size w w') : WireErr w' p c v := h
set_option maxRecDepth 100000 in
theorem number_bad (B r : Nat) (v : Value) (l : List UInt8) (p : Nat) (n c : Int) (w : World) (h : RdAt w B r v l p) (hc : NumBad (l.length - p) n c) :
    Calls Tryd.prog 73 #[.pointer (some ⟨r, 0, none⟩), .int .i64 n] w fun e w' => ∃ x, e = .returned (.tuple #[.slice none 0 0, x]) ∧ WireErr w' p c x ∧ Below w.heap.size w w' := by
  have H := Lib.hid h
  clear h
  rcases hc with ⟨hn, rfl⟩ | ⟨hn, hs, rfl⟩
  · have hd : decide (1 ≤ n ∧ n ≤ 6) = false := by simpa using hn
    clear hn
    go_enter Tryd.func73, Tryd.ntmps73
    go_wp2_with fail
    refine (fits_any n w).mono ?_
    rintro e w1 ⟨rfl, rfl⟩
    rw [hd]
    go_wp2_with fail
    refine (fault_any B r v l p 1 w H.out).mono ?_
    rintro e w2 ⟨x, rfl, hx, hb⟩
    obtain ⟨_, _, rfl, _⟩ := id hx
    have HX := Lib.hid hx
    have HB := Lib.hid hb
    clear hb hx
    go_wp2
    go_ret2
    exact ⟨_, rfl, HX.out, HB.out⟩
  · have hd : decide (1 ≤ n ∧ n ≤ 6) = true := by simpa using hn
    have HS := Lib.hid hs
    clear hn hs
    go_enter Tryd.func73, Tryd.ntmps73
    go_wp2_with fail
    refine (fits_any n w).mono ?_
    rintro e w1 ⟨rfl, rfl⟩
    rw [hd]
    go_wp2_with fail
    refine (take_short B r v l p n w H.out HS.out).mono ?_
    rintro e w2 ⟨x, rfl, hx, hb⟩
    obtain ⟨_, _, rfl, _⟩ := id hx
    have HX := Lib.hid hx
    have HB := Lib.hid hb
    clear hb hx
    go_wp2
    go_ret2
    exact ⟨_, rfl, HX.out, HB.out⟩

theorem cut_length (l : List UInt8) (p n : Nat) (hn : p + n ≤ l.length) : ((l.drop p).take n).length = n := by simp; omega

/-- What take hands out. -/
def TakeIs (w : World) (B r : Nat) (v : Value) (l : List UInt8) (p n : Nat) (e : Ending) (w' : World) : Prop :=
  (∃ x, e = .returned (.tuple #[x, .nilIface]) ∧ BytesAt w' x ((l.drop p).take n)) ∧ RdAt w' B r v l (p + n) ∧ Off (fun k => k = r) w w'

set_option maxRecDepth 100000 in
theorem number_ok (B r : Nat) (v : Value) (l : List UInt8) (p n : Nat) (w : World) (h : RdAt w B r v l p) (h1 : 1 ≤ n) (h2 : n ≤ 6) (hn : p + n ≤ l.length) :
    Calls Tryd.prog 73 #[.pointer (some ⟨r, 0, none⟩), .int .i64 (n : Int)] w (TakeIs w B r v l p n) := by
  have H := Lib.hid h
  have HN := Lib.hid hn
  clear h hn
  have hd : decide (1 ≤ (n : Int) ∧ (n : Int) ≤ 6) = true := by simp; omega
  clear h1 h2
  go_enter Tryd.func73, Tryd.ntmps73
  go_wp2_with fail
  refine (fits_any n w).mono ?_
  rintro e w1 ⟨rfl, rfl⟩
  rw [hd]
  go_wp2_with fail
  refine (take_ok B r v l p n w H.out HN.out).mono ?_
  rintro e w2 ⟨⟨x, rfl, hx⟩, h3⟩
  obtain ⟨ax, cx, hxe, _⟩ := id hx
  rw [cut_length l p n HN.out] at hxe
  subst hxe
  have HX := Lib.hid hx
  have H3 := Lib.hid h3
  clear hx h3
  go_wp2
  go_ret2
  exact ⟨⟨_, rfl, HX.out⟩, H3.out⟩

/-- What a number that is read answers. -/
def NumIs (w : World) (B r : Nat) (v : Value) (l : List UInt8) (p n : Nat) (x : Int) (e : Ending) (w' : World) : Prop :=
  e = .returned (.tuple #[.int .i64 x, .nilIface]) ∧ RdAt w' B r v l (p + n) ∧ Off (fun k => k = r) w w'
/-- What a number that is refused answers. -/
def BadIs (w : World) (p : Nat) (c : Int) (z : Value) (e : Ending) (w' : World) : Prop := ∃ x, e = .returned (.tuple #[z, x]) ∧ WireErr w' p c x ∧ Below w.heap.size w w'

set_option maxRecDepth 100000 in
theorem b_bad (B r : Nat) (v : Value) (l : List UInt8) (p : Nat) (n c : Int) (w : World) (h : RdAt w B r v l p) (hc : NumBad (l.length - p) n c) :
    Calls Tryd.prog 56 #[.pointer (some ⟨r, 0, none⟩), .int .i64 n] w (BadIs w p c (.int .i64 0)) := by
  have H := Lib.hid h
  have HC := Lib.hid hc
  clear h hc
  go_enter Tryd.func56, Tryd.ntmps56
  go_wp2_with fail
  refine (number_bad B r v l p n c w H.out HC.out).mono ?_
  rintro e w2 ⟨x, rfl, hx, hb⟩
  obtain ⟨_, _, rfl, _⟩ := id hx
  have HX := Lib.hid hx
  have HB := Lib.hid hb
  clear hb hx
  go_wp2
  go_ret2
  exact ⟨_, rfl, HX.out, HB.out⟩
set_option maxRecDepth 100000 in
theorem b_ok (B r : Nat) (v : Value) (l : List UInt8) (p n : Nat) (w : World) (h : RdAt w B r v l p) (h1 : 1 ≤ n) (h2 : n ≤ 6) (hn : p + n ≤ l.length) :
    Calls Tryd.prog 56 #[.pointer (some ⟨r, 0, none⟩), .int .i64 (n : Int)] w (NumIs w B r v l p n (leNum ((l.drop p).take n).reverse : Nat)) := by
  have H := Lib.hid h
  have HN := Lib.hid (And.intro (And.intro h1 h2) hn)
  clear h hn h1 h2
  go_enter Tryd.func56, Tryd.ntmps56
  go_wp2_with fail
  refine (number_ok B r v l p n w H.out HN.out.1.1 HN.out.1.2 HN.out.2).mono ?_
  rintro e w2 ⟨⟨x, rfl, hx⟩, h3⟩
  obtain ⟨ax, cx, hxe, _⟩ := id hx
  rw [cut_length l p n HN.out.2] at hxe
  subst hxe
  have HX := Lib.hid hx
  have H3 := Lib.hid h3
  clear hx h3
  go_wp2_with fail
  refine (from_big _ _ w2 HX.out (by rw [cut_length l p n HN.out.2]; exact HN.out.1.1) (by rw [cut_length l p n HN.out.2]; exact HN.out.1.2)).mono ?_
  rintro e w3 ⟨rfl, rfl⟩
  go_wp2
  go_ret2
  exact ⟨rfl, H3.out⟩

/-- A number of n bytes with a sign. -/
def sgnNum (n v : Nat) : Int := if 256 ^ n ≤ 2 * v then (v : Int) - ((256 ^ n : Nat) : Int) else (v : Int)

theorem span_facts (n : Nat) (h1 : 1 ≤ n) (h2 : n ≤ 6) : ∃ s : Nat, 256 ^ n = 2 * s ∧ 128 ≤ s ∧ s ≤ 140737488355328 := by
  match n, h1, h2 with
  | 1, _, _ => exact ⟨128, by decide, by decide, by decide⟩
  | 2, _, _ => exact ⟨32768, by decide, by decide, by decide⟩
  | 3, _, _ => exact ⟨8388608, by decide, by decide, by decide⟩
  | 4, _, _ => exact ⟨2147483648, by decide, by decide, by decide⟩
  | 5, _, _ => exact ⟨549755813888, by decide, by decide, by decide⟩
  | 6, _, _ => exact ⟨140737488355328, by decide, by decide, by decide⟩
  | n + 7, _, h2 => omega

/-- The code with which n bytes are refused. -/
def BytesBad (left : Nat) (n c : Int) : Prop := (n < 0 ∧ c = 1) ∨ (0 ≤ n ∧ (left : Int) < n ∧ c = 2)

set_option maxRecDepth 100000 in
theorem bytes_bad (B r : Nat) (v : Value) (l : List UInt8) (p : Nat) (n c : Int) (w : World) (h : RdAt w B r v l p) (hc : BytesBad (l.length - p) n c) :
    Calls Tryd.prog 75 #[.pointer (some ⟨r, 0, none⟩), .int .i64 n] w (BadIs w p c (.slice none 0 0)) := by
  have H := Lib.hid h
  clear h
  rcases hc with ⟨hn, rfl⟩ | ⟨hn, hs, rfl⟩
  · go_enter Tryd.func75, Tryd.ntmps75
    go_wp2_with fail
    refine (fault_any B r v l p 1 w H.out).mono ?_
    rintro e w2 ⟨x, rfl, hx, hb⟩
    obtain ⟨_, _, rfl, _⟩ := id hx
    have HX := Lib.hid hx
    have HB := Lib.hid hb
    clear hb hx
    go_wp2
    go_ret2
    exact ⟨_, rfl, HX.out, HB.out⟩
  · have HS := Lib.hid hs
    clear hs
    go_enter Tryd.func75, Tryd.ntmps75
    go_wp2_with fail
    refine (take_short B r v l p n w H.out HS.out).mono ?_
    rintro e w2 ⟨x, rfl, hx, hb⟩
    obtain ⟨_, _, rfl, _⟩ := id hx
    have HX := Lib.hid hx
    have HB := Lib.hid hb
    clear hb hx
    go_wp2
    go_ret2
    exact ⟨_, rfl, HX.out, HB.out⟩

theorem ownsRow_base {w : World} {b b' : Nat} {e : TypeId} {size : Nat} {v : Value} {n : Nat} {xs : List Value} (h : w.ownsRow b e size v n xs) (hb : b' ≤ b) : w.ownsRow b' e size v n xs := by
  refine ⟨h.1, ?_⟩
  rcases h.2 with h | ⟨g, cap, cur, hv, hg, h⟩
  · exact .inl h
  · exact .inr ⟨g, cap, cur, hv, Nat.le_trans hb hg, h⟩

/-- What Bytes hands out: a new row. -/
def RowIs (w : World) (B r : Nat) (v : Value) (l : List UInt8) (p n : Nat) (e : Ending) (w' : World) : Prop :=
  (∃ x, e = .returned (.tuple #[x, .nilIface]) ∧ w'.ownsRow w.heap.size 5 1 x n (bcells ((l.drop p).take n))) ∧ RdAt w' B r v l (p + n) ∧ Off (fun k => k = r) w w'

set_option maxRecDepth 100000 in
theorem bytes_ok (B r : Nat) (v : Value) (l : List UInt8) (p n : Nat) (w : World) (h : RdAt w B r v l p) (hn : p + n ≤ l.length) :
    Calls Tryd.prog 75 #[.pointer (some ⟨r, 0, none⟩), .int .i64 (n : Int)] w (RowIs w B r v l p n) := by
  have H := Lib.hid h
  have HN := Lib.hid hn
  have hll := h.len
  clear h
  go_enter Tryd.func75, Tryd.ntmps75
  go_wp2_with fail
  refine (take_ok B r v l p n w H.out HN.out).mono ?_
  rintro e w2 ⟨⟨x, rfl, hx⟩, h3⟩
  obtain ⟨ax, cx, hxe, _⟩ := id hx
  rw [cut_length l p n HN.out] at hxe
  subst hxe
  have HX := Lib.hid hx
  have H3 := Lib.hid h3
  clear hx h3
  go_wp2_with fail
  refine (clone_any _ _ w2 HX.out (by rw [cut_length l p n HN.out]; omega)).mono ?_
  rintro e w3 ⟨y, rfl, hown, hb⟩
  rw [cut_length l p n HN.out] at hown
  obtain ⟨ay, cy, hye⟩ : ∃ ay cy, y = .slice ay n cy := by
    rcases hown.2 with ⟨hv, h0⟩ | ⟨g, cap, cur, hv, _⟩
    · exact ⟨none, 0, by rw [hv, h0]⟩
    · exact ⟨_, _, hv⟩
  subst hye
  have HO := Lib.hid hown
  have HB := Lib.hid hb
  clear hown hb
  go_wp2
  go_ret2
  exact ⟨⟨_, rfl, ownsRow_base HO.out H3.out.2.size⟩, H3.out.1.on HB.out, H3.out.2.trans (Off.of_below _ HB.out)⟩

end Go.Proofs.YtngfaailbkadfaaDoor
