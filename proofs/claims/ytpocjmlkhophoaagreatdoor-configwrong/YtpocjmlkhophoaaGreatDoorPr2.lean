/- config.putList at slaves, polls, points and controls: the number of elements, and each of them. -/
import Derived.Test.YtpocjmlkhophoaaGreatDoorPr1
namespace Go.Proofs.YtpocjmlkhophoaaGreatDoor
open Go.RowKit Go.Extern.Stop Go.Stop Go.Extern

theorem flat_length {α : Type} (f : α → List UInt8) (n : Nat) (h : ∀ x, (f x).length = n) : ∀ l : List α, (l.flatMap f).length = l.length * n
  | [] => by simp
  | x :: l => by
    have := flat_length f n h l
    rw [List.flatMap_cons, List.length_append, h, this, List.length_cons, Nat.add_mul]
    omega
theorem flat_take {α : Type} (f : α → List UInt8) (l : List α) (i : Nat) (h : i < l.length) : (l.take (i + 1)).flatMap f = (l.take i).flatMap f ++ f l[i] := by
  rw [List.take_succ_eq_append_getElem h, List.flatMap_append, List.flatMap_cons, List.flatMap_nil, List.append_nil]
theorem pollB_length (p : Poll) : (pollB p).length = 7 := by simp [pollB, leBytes_length]
theorem ptB_length (p : Pt) : (ptB p).length = 16 := by simp [ptB, leBytes_length]
theorem ctlB_length (p : Ctl) : (ctlB p).length = 4 := by simp [ctlB, leBytes_length]
/-- A list's bytes: how many, and each. -/
def listB {α : Type} (f : α → List UInt8) (l : List α) : List UInt8 := leBytes 1 (l.length : Int) ++ l.flatMap f

set_option maxRecDepth 100000 in
set_option maxHeartbeats 4000000 in
theorem putInts_any (W0 w : World) (b : Nat) (l : List UInt8) (xs : List Int) (x : Value) (hx : LiesAt W0 x xs.length (icells xs)) (hn : xs.length ≤ 200) (h : St W0 b l w) (hl : l.length ≤ 20000) (hf : ∀ y ∈ xs, UFits ((1 : Nat) : Int) y) : Calls Tryz.prog 49 #[.pointer (some ⟨b, 0, none⟩), x, .func (.func 50) #[] #[]] w (EIs W0 w b l (listB (leBytes 1) xs)) := by
  have HC := Lib.hid hx
  have HF := Lib.hid hf
  have H := Lib.hid h
  obtain ⟨ao, cap, rfl, hcap⟩ := hx.form
  clear hx hf h hcap
  go_enter Tryz.func49, Tryz.ntmps49
  go_wp2_with fail
  refine (st_u W0 w b l 1 xs.length H.out (by omega) (u1 (by omega) (by omega))).mono ?_
  rintro e w1 ⟨rfl, hs, hk⟩
  have H0 : Hid (St W0 b (l ++ leBytes 1 (xs.length : Int) ++ (xs.take 0).flatMap (leBytes 1)) w1 ∧ Keeps w w1) := Lib.hid ⟨by simpa using hs, hk⟩
  clear hs hk
  go_wp2
  go_loopg [14] xs.length (fun k s wr => ∃ i : Nat, i ≤ xs.length ∧ k = xs.length - i ∧ s = .int .i64 i ∧ Hid (St W0 b (l ++ leBytes 1 (xs.length : Int) ++ (xs.take i).flatMap (leBytes 1)) wr ∧ Keeps w wr))
  case atStart => exact ⟨0, Nat.zero_le _, rfl, rfl, H0⟩
  case round =>
    obtain ⟨i, hi, rfl, rfl, HI⟩ := hrel
    by_cases hlt : i < xs.length
    · obtain ⟨v, hst⟩ := HI.out.1
      obtain ⟨bb, off, rfl, at'⟩ := lies_cells (HC.out.on hst.2) (icells_get xs i hlt)
      have p0 := at' _ _ (icells_get xs i hlt)
      have HT := Lib.hid (flat_take (leBytes 1) xs i hlt)
      have HY := Lib.hid (HF.out xs[i] (List.getElem_mem hlt))
      have hlen : (l ++ leBytes 1 (xs.length : Int) ++ (xs.take i).flatMap (leBytes 1)).length ≤ 50000 := by
        rw [List.length_append, List.length_append, leBytes_length, flat_length _ 1 (leBytes_length 1), List.length_take, Nat.min_eq_left hi]
        omega
      have HLEN := Lib.hid hlen
      clear hst hlen at'
      generalize xs[i] = y at *
      go_wp2_with fail
      refine (putSlave_any W0 _ b _ y HI.out.1 HLEN.out HY.out).mono ?_
      rintro e w2 ⟨rfl, hs, hk⟩
      have HN : Hid (St W0 b (l ++ leBytes 1 (xs.length : Int) ++ (xs.take (i + 1)).flatMap (leBytes 1)) w2 ∧ Keeps w w2) := Lib.hid ⟨by rw [HT.out, ← List.append_assoc]; exact hs, HI.out.2.trans hk⟩
      clear hs hk HT HY HI HLEN
      go_wp2
      go_roundg (xs.length - (i + 1))
      case measure => omega
      case rel => exact ⟨i + 1, by omega, rfl, by go_num, HN⟩
    · have HE : Hid (St W0 b (l ++ listB (leBytes 1) xs) wr) := Lib.hid (by
        have := HI.out.1
        rw [show i = xs.length by omega, List.take_length, List.append_assoc] at this
        exact this)
      go_wp2
      go_end0
      exact ⟨rfl, HE.out, HI.out.2⟩

set_option maxRecDepth 100000 in
set_option maxHeartbeats 4000000 in
theorem putPolls_any (W0 w : World) (b : Nat) (l : List UInt8) (xs : List Poll) (x : Value) (hx : LiesAt W0 x xs.length (pollCells xs)) (hn : xs.length ≤ 200) (h : St W0 b l w) (hl : l.length ≤ 20000) (hf : ∀ y ∈ xs, PollFits y) : Calls Tryz.prog 51 #[.pointer (some ⟨b, 0, none⟩), x, .func (.func 52) #[] #[]] w (EIs W0 w b l (listB (pollB) xs)) := by
  have HC := Lib.hid hx
  have HF := Lib.hid hf
  have H := Lib.hid h
  obtain ⟨ao, cap, rfl, hcap⟩ := hx.form
  clear hx hf h hcap
  go_enter Tryz.func51, Tryz.ntmps51
  go_wp2_with fail
  refine (st_u W0 w b l 1 xs.length H.out (by omega) (u1 (by omega) (by omega))).mono ?_
  rintro e w1 ⟨rfl, hs, hk⟩
  have H0 : Hid (St W0 b (l ++ leBytes 1 (xs.length : Int) ++ (xs.take 0).flatMap (pollB)) w1 ∧ Keeps w w1) := Lib.hid ⟨by simpa using hs, hk⟩
  clear hs hk
  go_wp2
  go_loopg [14] xs.length (fun k s wr => ∃ i : Nat, i ≤ xs.length ∧ k = xs.length - i ∧ s = .int .i64 i ∧ Hid (St W0 b (l ++ leBytes 1 (xs.length : Int) ++ (xs.take i).flatMap (pollB)) wr ∧ Keeps w wr))
  case atStart => exact ⟨0, Nat.zero_le _, rfl, rfl, H0⟩
  case round =>
    obtain ⟨i, hi, rfl, rfl, HI⟩ := hrel
    by_cases hlt : i < xs.length
    · obtain ⟨v, hst⟩ := HI.out.1
      obtain ⟨bb, off, rfl, p0, p1, p2, p3, p4⟩ := row5_of (HC.out.on hst.2) i hlt
      have HT := Lib.hid (flat_take (pollB) xs i hlt)
      have HY := Lib.hid (HF.out xs[i] (List.getElem_mem hlt))
      have hlen : (l ++ leBytes 1 (xs.length : Int) ++ (xs.take i).flatMap (pollB)).length ≤ 50000 := by
        rw [List.length_append, List.length_append, leBytes_length, flat_length _ 7 (pollB_length), List.length_take, Nat.min_eq_left hi]
        omega
      have HLEN := Lib.hid hlen
      clear hst hlen
      generalize xs[i] = y at *
      go_wp2_with fail
      refine (putPoll_any W0 _ b _ y.slave y.func y.start y.count y.every (HI.out.1.on (below_new _ _)) HLEN.out HY.out).mono ?_
      rintro e w2 ⟨rfl, hs, hk⟩
      have HN : Hid (St W0 b (l ++ leBytes 1 (xs.length : Int) ++ (xs.take (i + 1)).flatMap (pollB)) w2 ∧ Keeps w w2) := Lib.hid ⟨by rw [HT.out, ← List.append_assoc]; exact hs, HI.out.2.trans ((Keeps.of (below_new _ _)).trans hk)⟩
      clear hs hk HT HY HI HLEN
      go_wp2
      go_roundg (xs.length - (i + 1))
      case measure => omega
      case rel => exact ⟨i + 1, by omega, rfl, by go_num, HN⟩
    · have HE : Hid (St W0 b (l ++ listB (pollB) xs) wr) := Lib.hid (by
        have := HI.out.1
        rw [show i = xs.length by omega, List.take_length, List.append_assoc] at this
        exact this)
      go_wp2
      go_end0
      exact ⟨rfl, HE.out, HI.out.2⟩

set_option maxRecDepth 100000 in
set_option maxHeartbeats 4000000 in
theorem putPts_any (W0 w : World) (b : Nat) (l : List UInt8) (xs : List Pt) (x : Value) (hx : LiesAt W0 x xs.length (ptCells xs)) (hn : xs.length ≤ 200) (h : St W0 b l w) (hl : l.length ≤ 20000) (hf : ∀ y ∈ xs, PtFits y) : Calls Tryz.prog 53 #[.pointer (some ⟨b, 0, none⟩), x, .func (.func 54) #[] #[]] w (EIs W0 w b l (listB (ptB) xs)) := by
  have HC := Lib.hid hx
  have HF := Lib.hid hf
  have H := Lib.hid h
  obtain ⟨ao, cap, rfl, hcap⟩ := hx.form
  clear hx hf h hcap
  go_enter Tryz.func53, Tryz.ntmps53
  go_wp2_with fail
  refine (st_u W0 w b l 1 xs.length H.out (by omega) (u1 (by omega) (by omega))).mono ?_
  rintro e w1 ⟨rfl, hs, hk⟩
  have H0 : Hid (St W0 b (l ++ leBytes 1 (xs.length : Int) ++ (xs.take 0).flatMap (ptB)) w1 ∧ Keeps w w1) := Lib.hid ⟨by simpa using hs, hk⟩
  clear hs hk
  go_wp2
  go_loopg [14] xs.length (fun k s wr => ∃ i : Nat, i ≤ xs.length ∧ k = xs.length - i ∧ s = .int .i64 i ∧ Hid (St W0 b (l ++ leBytes 1 (xs.length : Int) ++ (xs.take i).flatMap (ptB)) wr ∧ Keeps w wr))
  case atStart => exact ⟨0, Nat.zero_le _, rfl, rfl, H0⟩
  case round =>
    obtain ⟨i, hi, rfl, rfl, HI⟩ := hrel
    by_cases hlt : i < xs.length
    · obtain ⟨v, hst⟩ := HI.out.1
      obtain ⟨bb, off, rfl, p0, p1, p2, p3, p4, p5, p6, p7⟩ := row8_of (HC.out.on hst.2) i hlt
      have HT := Lib.hid (flat_take (ptB) xs i hlt)
      have HY := Lib.hid (HF.out xs[i] (List.getElem_mem hlt))
      have hlen : (l ++ leBytes 1 (xs.length : Int) ++ (xs.take i).flatMap (ptB)).length ≤ 50000 := by
        rw [List.length_append, List.length_append, leBytes_length, flat_length _ 16 (ptB_length), List.length_take, Nat.min_eq_left hi]
        omega
      have HLEN := Lib.hid hlen
      clear hst hlen
      generalize xs[i] = y at *
      go_wp2_with fail
      refine (putPt_any W0 _ b _ y.kind y.poll y.place y.cls y.dead y.num y.den y.off (HI.out.1.on (below_new _ _)) HLEN.out HY.out).mono ?_
      rintro e w2 ⟨rfl, hs, hk⟩
      have HN : Hid (St W0 b (l ++ leBytes 1 (xs.length : Int) ++ (xs.take (i + 1)).flatMap (ptB)) w2 ∧ Keeps w w2) := Lib.hid ⟨by rw [HT.out, ← List.append_assoc]; exact hs, HI.out.2.trans ((Keeps.of (below_new _ _)).trans hk)⟩
      clear hs hk HT HY HI HLEN
      go_wp2
      go_roundg (xs.length - (i + 1))
      case measure => omega
      case rel => exact ⟨i + 1, by omega, rfl, by go_num, HN⟩
    · have HE : Hid (St W0 b (l ++ listB (ptB) xs) wr) := Lib.hid (by
        have := HI.out.1
        rw [show i = xs.length by omega, List.take_length, List.append_assoc] at this
        exact this)
      go_wp2
      go_end0
      exact ⟨rfl, HE.out, HI.out.2⟩

set_option maxRecDepth 100000 in
set_option maxHeartbeats 4000000 in
theorem putCtls_any (W0 w : World) (b : Nat) (l : List UInt8) (xs : List Ctl) (x : Value) (hx : LiesAt W0 x xs.length (ctlCells xs)) (hn : xs.length ≤ 200) (h : St W0 b l w) (hl : l.length ≤ 20000) (hf : ∀ y ∈ xs, CtlFits y) : Calls Tryz.prog 55 #[.pointer (some ⟨b, 0, none⟩), x, .func (.func 56) #[] #[]] w (EIs W0 w b l (listB (ctlB) xs)) := by
  have HC := Lib.hid hx
  have HF := Lib.hid hf
  have H := Lib.hid h
  obtain ⟨ao, cap, rfl, hcap⟩ := hx.form
  clear hx hf h hcap
  go_enter Tryz.func55, Tryz.ntmps55
  go_wp2_with fail
  refine (st_u W0 w b l 1 xs.length H.out (by omega) (u1 (by omega) (by omega))).mono ?_
  rintro e w1 ⟨rfl, hs, hk⟩
  have H0 : Hid (St W0 b (l ++ leBytes 1 (xs.length : Int) ++ (xs.take 0).flatMap (ctlB)) w1 ∧ Keeps w w1) := Lib.hid ⟨by simpa using hs, hk⟩
  clear hs hk
  go_wp2
  go_loopg [14] xs.length (fun k s wr => ∃ i : Nat, i ≤ xs.length ∧ k = xs.length - i ∧ s = .int .i64 i ∧ Hid (St W0 b (l ++ leBytes 1 (xs.length : Int) ++ (xs.take i).flatMap (ctlB)) wr ∧ Keeps w wr))
  case atStart => exact ⟨0, Nat.zero_le _, rfl, rfl, H0⟩
  case round =>
    obtain ⟨i, hi, rfl, rfl, HI⟩ := hrel
    by_cases hlt : i < xs.length
    · obtain ⟨v, hst⟩ := HI.out.1
      obtain ⟨bb, off, rfl, p0, p1, p2⟩ := row3_of (HC.out.on hst.2) i hlt
      have HT := Lib.hid (flat_take (ctlB) xs i hlt)
      have HY := Lib.hid (HF.out xs[i] (List.getElem_mem hlt))
      have hlen : (l ++ leBytes 1 (xs.length : Int) ++ (xs.take i).flatMap (ctlB)).length ≤ 50000 := by
        rw [List.length_append, List.length_append, leBytes_length, flat_length _ 4 (ctlB_length), List.length_take, Nat.min_eq_left hi]
        omega
      have HLEN := Lib.hid hlen
      clear hst hlen
      generalize xs[i] = y at *
      go_wp2_with fail
      refine (putCtl_any W0 _ b _ y.kind y.slave y.reg (HI.out.1.on (below_new _ _)) HLEN.out HY.out).mono ?_
      rintro e w2 ⟨rfl, hs, hk⟩
      have HN : Hid (St W0 b (l ++ leBytes 1 (xs.length : Int) ++ (xs.take (i + 1)).flatMap (ctlB)) w2 ∧ Keeps w w2) := Lib.hid ⟨by rw [HT.out, ← List.append_assoc]; exact hs, HI.out.2.trans ((Keeps.of (below_new _ _)).trans hk)⟩
      clear hs hk HT HY HI HLEN
      go_wp2
      go_roundg (xs.length - (i + 1))
      case measure => omega
      case rel => exact ⟨i + 1, by omega, rfl, by go_num, HN⟩
    · have HE : Hid (St W0 b (l ++ listB (ctlB) xs) wr) := Lib.hid (by
        have := HI.out.1
        rw [show i = xs.length by omega, List.take_length, List.append_assoc] at this
        exact this)
      go_wp2
      go_end0
      exact ⟨rfl, HE.out, HI.out.2⟩

end Go.Proofs.YtpocjmlkhophoaaGreatDoor
