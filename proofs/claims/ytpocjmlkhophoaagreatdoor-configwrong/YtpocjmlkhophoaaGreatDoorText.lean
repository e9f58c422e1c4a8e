/- fail.Text of an error that In has wrapped: for each step its place, then the code; all older memory stands. -/
import Derived.Test.YtpocjmlkhophoaaGreatDoorWrite
import Derived.Test.YtpocjmlkhophoaaGreatDoorSame
import Derived.Lib.AppendIntMem
import Derived.Lib.ItoaLen
namespace Go.Proofs.YtpocjmlkhophoaaGreatDoor
open Go.RowKit Go.Extern.Stop Go.Stop Go.Extern

/-- The package-level variables that the program reads, as the program's text lays them. -/
def Ready (w : World) : Prop := ErrT w ∧ Lib.TabIs Tryz.prog w "internal/strconv.uint64pow10" .u64 Lib.pow10Tab
theorem Ready.on {w w' : World} (h : Ready w) (hb : Below w.heap.size w w') : Ready w' := ⟨h.1.on h.1.pos hb, Lib.tabBelow_of_tabIs h.2 w' hb⟩

theorem below_grow (w : World) (k : Nat) (os : Array Obj) : Below w.heap.size w (Sort.grow (w.drewN k) os) :=
  ⟨rfl, rfl, rfl, by simp [Sort.grow], fun i hi => by
    show ((w.drewN k).heap ++ os)[i]? = _
    rw [Array.getElem?_append_left (by show i < w.heap.size; omega)]
    rfl⟩

/-- An int of Go's. -/
def IsInt (n : Int) : Prop := -9223372036854775808 ≤ n ∧ n ≤ 9223372036854775807

theorem bsize (l : List UInt8) : (ByteArray.mk l.toArray).size = l.length := List.size_toArray
/-- A place as a text: its name, a space, its number. -/
def place (s : ByteArray) (n : Int) : ByteArray := s ++ ⟨#[32]⟩ ++ ⟨(Lib.itoa n).toArray⟩
theorem place_size (s : ByteArray) (n : Int) (h : IsInt n) : (place s n).size ≤ s.size + 22 := by
  have := Lib.itoa_length_le n h.1 h.2
  have e : (place s n).size = s.size + 1 + (Lib.itoa n).length := by
    unfold place
    rw [ByteArray.size_append, ByteArray.size_append, bsize]
    rfl
  omega

theorem itoa_any (n : Int) (hn : IsInt n) (w : World) (h : Ready w) :
    Calls Tryz.prog 130 #[.int .i64 n] w fun e w' => e = .returned (.string ⟨(Lib.itoa n).toArray⟩) ∧ Below w.heap.size w w' :=
  (Tryz.strconv_Itoa n hn.1 hn.2 w h.2).mono fun e w' ⟨he, k, os, hw⟩ => ⟨he, by rw [hw]; exact below_grow w k os⟩

theorem placeText_any (s : ByteArray) (n : Int) (hn : IsInt n) (w : World) (h : Ready w) (hs : s.size ≤ 1000000) :
    Calls Tryz.prog 87 #[.string s, .int .i64 n] w fun e w' => e = .returned (.string (place s n)) ∧ Below w.heap.size w w' := by
  have HN := Lib.hid hn
  have HR := Lib.hid h
  clear hn h
  have hil : (Lib.itoa n).length ≤ 21 := Lib.itoa_length_le n HN.out.1 HN.out.2
  go_enter Tryz.func87, Tryz.ntmps87
  go_wp2_with fail
  refine (itoa_any n HN.out _ HR.out).mono ?_
  rintro e w' ⟨rfl, hb⟩
  have HB := Lib.hid hb
  clear hb
  go_wp2
  go_ret
  exact ⟨rfl, HB.out⟩

/-- A code as a text. -/
def codeText (n : Int) : ByteArray := ⟨#[99, 111, 100, 101, 32]⟩ ++ ⟨(Lib.itoa n).toArray⟩

theorem codeText_size (n : Int) (h : IsInt n) : (codeText n).size ≤ 26 := by
  have := Lib.itoa_length_le n h.1 h.2
  have e : (codeText n).size = 5 + (Lib.itoa n).length := by
    unfold codeText
    rw [ByteArray.size_append, bsize]
    rfl
  omega

theorem code_any (n : Int) (hn : IsInt n) (w : World) (h : Ready w) :
    Calls Tryz.prog 88 #[.int .i64 n] w fun e w' => e = .returned (.string (codeText n)) ∧ Below w.heap.size w w' := by
  have HN := Lib.hid hn
  have HR := Lib.hid h
  clear hn h
  have hil : (Lib.itoa n).length ≤ 21 := Lib.itoa_length_le n HN.out.1 HN.out.2
  go_enter Tryz.func88, Tryz.ntmps88
  go_wp2_with fail
  refine (itoa_any n HN.out _ HR.out).mono ?_
  rintro e w' ⟨rfl, hb⟩
  have HB := Lib.hid hb
  clear hb
  go_wp2
  go_ret
  exact ⟨rfl, HB.out⟩

/-- The places of a path as a text. -/
def pathText : List (ByteArray × Int) → List UInt8
  | [] => []
  | (s, n) :: l => (place s n ++ ⟨#[58, 32]⟩).data.toList ++ pathText l
theorem pathText_append : ∀ l m : List (ByteArray × Int), pathText (l ++ m) = pathText l ++ pathText m
  | [], _ => rfl
  | (_, _) :: l, m => by simp [pathText, pathText_append l m]

theorem pathText_take_le (l : List (ByteArray × Int)) (i : Nat) : (pathText (l.take i)).length ≤ (pathText l).length := by
  have h := congrArg List.length (pathText_append (l.take i) (l.drop i))
  rw [List.take_append_drop, List.length_append] at h
  omega
theorem pathText_take_succ (l : List (ByteArray × Int)) (i : Nat) (h : i < l.length) : pathText (l.take (i + 1)) = pathText (l.take i) ++ (place l[i].1 l[i].2 ++ ⟨#[58, 32]⟩).data.toList := by
  rw [List.take_succ_eq_append_getElem h, pathText_append]
  simp [pathText]
theorem builderAt_on {T e : TypeId} {B b : Nat} {p : Value} {bs : List Value} {w w' : World} (h : Lib.BuilderAtF T e B b p bs w) (hb : Below w.heap.size w w') : Lib.BuilderAtF T e B b p bs w' := by
  obtain ⟨hB, v, hbk, ⟨hl, hr⟩, hne⟩ := h
  have lt : ∀ {k : Nat} {o : Obj}, w.heap[k]? = some o → k < w.heap.size := fun {k o} hk => by
    rcases Nat.lt_or_ge k w.heap.size with h' | h'
    · exact h'
    · simp [Array.getElem?_eq_none h'] at hk
  refine ⟨hB, v, (hb.block b (lt hbk)).trans hbk, ⟨hl, ?_⟩, hne⟩
  rcases hr with hr | ⟨g, cap, cur, fz, hv, hg, hh, hr⟩
  · exact .inl hr
  · exact .inr ⟨g, cap, cur, fz, hv, hg, (hb.block g (lt hh)).trans hh, hr⟩
theorem builder_on {T e : TypeId} {B b : Nat} {bs : List Value} {w w' : World} (h : Lib.IsBuilderF T e B b bs w) (hb : Below w.heap.size w w') : Lib.IsBuilderF T e B b bs w' :=
  h.elim (fun h => .inl (builderAt_on h hb)) (fun h => .inr (builderAt_on h hb))

/-- A list of steps stands while a builder below it is written. -/
theorem ownsRow_others {w w' : World} {base b : Nat} {v : Value} {n : Nat} {xs : List Value} (h : w.ownsRow base 101 2 v n xs) (hk : Lib.OthersKept 5 (some b) w w') (hb : b < base) : w'.ownsRow base 101 2 v n xs := by
  obtain ⟨hl, h⟩ := h
  refine ⟨hl, ?_⟩
  rcases h with h | ⟨g, cap, cur, hv, hg, hh, h⟩
  · exact .inl h
  · exact .inr ⟨g, cap, cur, hv, hg, hk g _ hh (fun e => by cases e; omega) (fun c fz e => by cases e), h⟩

def TextInv (w : World) (l : List (ByteArray × Int)) (sl : Value) (i : Nat) (wr : World) : Prop :=
  Lib.IsBuilderF 128 5 w.heap.size w.heap.size (Lib.byteCells (pathText (l.take i))) wr ∧ wr.ownsRow (w.heap.size + 1) 101 2 sl l.length (stepCells l) ∧ Below w.heap.size w wr

/-- Steps that are few and short, of ints of Go's. -/
def Short (l : List (ByteArray × Int)) : Prop := (pathText l).length ≤ 1000000 ∧ l.length ≤ 100000 ∧ ∀ x ∈ l, x.1.size ≤ 1000000 ∧ IsInt x.2

set_option maxRecDepth 100000 in
set_option maxHeartbeats 4000000 in
theorem text_any (l : List (ByteArray × Int)) (v : Value) (c : Int) (hc : IsInt c) (w : World) (hg : Ready w) (hch : Chain w (.iface 32 (.int .i64 c)) l v) (hl : Short l) :
    Calls Tryz.prog 34 #[v] w fun e w' => e = .returned (.string ⟨(pathText l ++ (codeText c).data.toList).toArray⟩) ∧ Below w.heap.size w w' := by
  obtain ⟨te, ye, rfl⟩ := hch.iface
  have HG := Lib.hid hg
  have HC := Lib.hid hc
  have HL := Lib.hid hl
  have HCH := Lib.hid hch
  clear hg hc hl hch
  go_enter Tryz.func34, Tryz.ntmps34
  go_wp2_with fail
  have hb0 : Below w.heap.size w (w.alloc (.cells #[.pointer none, .slice none 0 0] 128)) := (Below.refl _ _).alloc (Nat.le_refl _) _
  refine (path_any l _ _ _ (HG.out.on hb0).1 (.inr ⟨32, _, rfl, rfl⟩) (HCH.out.on hb0) HL.out.2.1).mono ?_
  rintro e w1 ⟨sl, rfl, hown, hb1⟩
  have HI : Hid (TextInv w l sl 0 w1) := Lib.hid ⟨by simpa [pathText, Lib.byteCells] using builder_on (Lib.IsBuilderF.of (Lib.fresh_isBuilder 128 5 w)) hb1, by simpa using hown, hb0.trans (hb1.mono hb0.size)⟩
  obtain ⟨ao, cap, hsl⟩ : ∃ ao cap, sl = .slice ao l.length cap := by
    rcases hown.2 with ⟨hv, h0⟩ | ⟨g, cap, cur, hv, _⟩
    · exact ⟨none, 0, by rw [hv, h0]⟩
    · exact ⟨_, _, hv⟩
  subst hsl
  clear hown hb1 hb0
  go_wp2
  go_loopg [11] l.length (fun k s11 wr => ∃ i : Nat, i ≤ l.length ∧ k = l.length - i ∧ s11 = .int .i64 i ∧ Hid (TextInv w l (.slice ao l.length cap) i wr))
  case atStart => exact ⟨0, Nat.zero_le _, rfl, rfl, HI⟩
  case round =>
    obtain ⟨i, hi, rfl, rfl, hinv⟩ := hrel
    have hl5 : l.length ≤ 100000 := HL.out.2.1
    by_cases hlt : i < l.length
    · obtain ⟨hib, hown, hbr⟩ := hinv.out
      obtain ⟨g, rfl⟩ : ∃ g, ao = some ⟨g, 0, none⟩ := by
        rcases hown.2 with ⟨hv, h0⟩ | ⟨g, cap, cur, hv, _⟩
        · omega
        · exact ⟨g, by cases hv; rfl⟩
      have hgt := stepCells_get l i hlt
      have k0 : wr.cell? ⟨g, i * 2, none⟩ = some (.string l[i].1) := (hown.cellAt (i * 2) (by omega)).trans hgt.1
      have k1 : wr.cell? ⟨g, i * 2 + 1, none⟩ = some (.int .i64 l[i].2) := (hown.cellAt (i * 2 + 1) (by omega)).trans hgt.2
      have hx := HL.out.2.2 l[i] (List.getElem_mem hlt)
      have hps := place_size l[i].1 l[i].2 hx.2
      have hx1 := hx.1
      have HX := Lib.hid hx.2
      clear hib hown hbr hgt hx
      go_wp2_with fail
      have hba : Below wr.heap.size wr (wr.alloc (.cells #[.string l[i].1, .int .i64 l[i].2] 101)) := (Below.refl _ _).alloc (Nat.le_refl _) _
      refine (placeText_any l[i].1 l[i].2 HX.out _ ((HG.out.on hinv.out.2.2).on hba) hx1).mono ?_
      rintro e w2 ⟨rfl, hb2⟩
      have HB2 : Hid (Below wr.heap.size wr w2) := Lib.hid (hba.trans (hb2.mono hba.size))
      clear hb2 hba
      go_wp2_with fail
      have hpl := pathText_take_le l i
      have hpl2 := HL.out.1
      refine (write_any w.heap.size w.heap.size (Lib.byteCells (pathText (l.take i))) _ _ (builder_on hinv.out.1 HB2.out) ?_ ?_).mono ?_
      · rw [Lib.byteCells_length, ByteArray.size_append]
        have : (ByteArray.mk #[58, 32]).size = 2 := rfl
        omega
      · exact Nat.le_trans hinv.out.2.2.size HB2.out.size
      rintro e w3 ⟨rfl, hbd, hb3, hk3⟩
      have HN : Hid (TextInv w l (.slice (some ⟨g, 0, none⟩) l.length cap) (i + 1) w3) := Lib.hid ⟨by
        rw [pathText_take_succ l i hlt, Lib.byteCells_append]
        exact .inr hbd, ownsRow_others (ownsRow_on hinv.out.2.1 HB2.out) hk3 (Nat.lt_succ_self _), (hinv.out.2.2.trans (HB2.out.mono hinv.out.2.2.size)).trans hb3⟩
      clear hbd hb3 hk3 hpl hpl2
      go_wp2
      go_roundg (l.length - (i + 1))
      case measure => omega
      case rel => exact ⟨i + 1, by omega, rfl, by go_num, HN⟩
    · have hil : i = l.length := by omega
      have HV : Hid (Lib.IsBuilderF 128 5 w.heap.size w.heap.size (Lib.byteCells (pathText l)) wr ∧ Below w.heap.size w wr) := Lib.hid ⟨by have := hinv.out.1; rw [hil, List.take_length] at this; exact this, hinv.out.2.2⟩
      clear hil hinv
      go_wp2_with fail
      refine (of_code l _ c _ (HG.out.on HV.out.2).1 (HCH.out.on HV.out.2)).mono ?_
      rintro e w2 ⟨rfl, hb2⟩
      have HB2 : Hid (Below wr.heap.size wr w2) := Lib.hid hb2
      clear hb2
      go_wp2_with fail
      refine (code_any c HC.out _ ((HG.out.on HV.out.2).on HB2.out)).mono ?_
      rintro e w3 ⟨rfl, hb3⟩
      have HB3 : Hid (Below wr.heap.size wr w3) := Lib.hid (HB2.out.trans (hb3.mono HB2.out.size))
      clear hb3 HB2
      have hpl2 := HL.out.1
      have hcl := codeText_size c HC.out
      go_wp2_with fail
      refine (write_any w.heap.size w.heap.size (Lib.byteCells (pathText l)) _ _ (builder_on HV.out.1 HB3.out) ?_ ?_).mono ?_
      · rw [Lib.byteCells_length]; omega
      · exact Nat.le_trans HV.out.2.size HB3.out.size
      rintro e w4 ⟨rfl, hbd, hb4, hk4⟩
      have HD : Hid (Lib.IsBuilderF 128 5 w.heap.size w.heap.size (Lib.byteCells (pathText l ++ (codeText c).data.toList)) w4) := Lib.hid (by
        rw [Lib.byteCells_append]
        exact .inr hbd)
      have HB4 : Hid (Below w.heap.size w w4) := Lib.hid ((HV.out.2.trans (HB3.out.mono HV.out.2.size)).trans hb4)
      clear hbd hb4 hk4 hpl2 hcl
      go_wp2_with fail
      refine (Tryz.Builder_String_any_k w.heap.size w.heap.size _ _ HD.out HB4.out.size).mono ?_
      rintro e w5 ⟨rfl, hbd5, hb5, hk5⟩
      have HB5 : Hid (Below w.heap.size w w5) := Lib.hid (HB4.out.trans hb5)
      clear hbd5 hb5 hk5
      go_wp2
      go_ret
      exact ⟨rfl, HB5.out⟩

theorem text_nil (w : World) : Calls Tryz.prog 34 #[.nilIface] w fun e w' => e = .returned (.string ⟨#[]⟩) ∧ w = w' := by
  go_enter Tryz.func34, Tryz.ntmps34
  go_wp2
  go_ret
  exact ⟨rfl, rfl⟩
end Go.Proofs.YtpocjmlkhophoaaGreatDoor
