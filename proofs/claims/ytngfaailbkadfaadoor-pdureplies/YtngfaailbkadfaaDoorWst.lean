/- A Writer that is written into, one field behind the other; pdu.inWords. -/
import Derived.Test.YtngfaailbkadfaaDoorMay
namespace Go.Proofs.YtngfaailbkadfaaDoor
open Go.RowKit Go.Extern.Stop Go.Stop Go.Extern
set_option maxRecDepth 100000

/-- A Writer made behind W0, with the bytes l; all that W0 had stands. -/
def St (W0 : World) (b : Nat) (l : List UInt8) (w : World) : Prop := ∃ v, WrAt w W0.heap.size b v l ∧ Below W0.heap.size W0 w
/-- Blocks that are no bytes and no Writer stand. -/
def Keeps (w w' : World) : Prop := ∀ (k : Nat) (cs : Array Value) (t : TypeId), t ≠ 5 → t ≠ 95 → w.heap[k]? = some (.cells cs t (0, 0)) → w'.heap[k]? = some (.cells cs t (0, 0))
theorem Keeps.refl (w : World) : Keeps w w := fun _ _ _ _ _ h => h
theorem Keeps.trans {a b c : World} (h : Keeps a b) (k : Keeps b c) : Keeps a c := fun i cs t h1 h2 h3 => k i cs t h1 h2 (h i cs t h1 h2 h3)
theorem Keeps.of {w w' : World} (hb : Below w.heap.size w w') : Keeps w w' := fun _ _ _ _ _ h => (hb.block _ (lt_heap h)).trans h
theorem St.on {W0 w w' : World} {b : Nat} {l : List UInt8} (h : St W0 b l w) (hb : Below w.heap.size w w') : St W0 b l w' := by
  obtain ⟨v, h1, h2⟩ := h
  exact ⟨v, h1.on hb, h2.trans (hb.mono h2.size)⟩
theorem put_st {W0 w w' : World} {b : Nat} {v : Value} {l m : List UInt8} (h : WrAt w W0.heap.size b v l) (hb : Below W0.heap.size W0 w) (hp : PutIs w W0.heap.size b v l m w') : St W0 b (l ++ m) w' ∧ Keeps w w' := by
  obtain ⟨v', hw, ho, _⟩ := hp
  refine ⟨⟨v', hw, hb.trans (ho.below hb.size ?_)⟩, fun k cs t h5 h71 hk => ?_⟩
  · intro k hk
    rcases hk with rfl | hk
    · exact h.base
    · exact (h.own.lt k hk).1
  · refine (ho.block k (lt_heap hk) ?_).trans hk
    rintro (rfl | e)
    · rw [h.obj] at hk
      simp only [Option.some.injEq, Obj.cells.injEq] at hk
      exact h71 hk.2.1.symm
    · exact row_no h.own hk h5 e
/-- What a put leaves. -/
def UIs (W0 w : World) (b : Nat) (l m : List UInt8) (e : Ending) (w' : World) : Prop := e = .returned .nilIface ∧ St W0 b (l ++ m) w' ∧ Keeps w w'
/-- A number, the greatest byte first. -/
def be (n : Nat) (x : Int) : List UInt8 := (leBytes n x).reverse
theorem be_length (n : Nat) (x : Int) : (be n x).length = n := by simp [be, leBytes_length]
theorem st_b (W0 w : World) (b : Nat) (l : List UInt8) (n : Nat) (x : Int) (h : St W0 b l w) (hl : l.length ≤ 1000000) (hx : UFits n x) : Calls Tryd.prog 43 #[.pointer (some ⟨b, 0, none⟩), .int .i64 (n : Int), .int .i64 x] w (UIs W0 w b l (be n x)) := by
  obtain ⟨v, h1, h2⟩ := h
  refine (wb_ok _ b v l n x w h1 (by omega) hx).mono ?_
  rintro e w' ⟨rfl, hp⟩
  exact ⟨rfl, put_st h1 h2 hp⟩
theorem st_bytes (W0 w : World) (b : Nat) (l m : List UInt8) (u : Value) (h : St W0 b l w) (hu : BytesAt w u m) (hl : l.length + m.length ≤ 1000000) : Calls Tryd.prog 51 #[.pointer (some ⟨b, 0, none⟩), u] w fun e w' => e = .returned (.tuple #[]) ∧ St W0 b (l ++ m) w' ∧ Keeps w w' := by
  obtain ⟨v, h1, h2⟩ := h
  refine (wbytes_any _ b v u l m w h1 hu (by omega)).mono ?_
  rintro e w' ⟨rfl, hp⟩
  exact ⟨rfl, put_st h1 h2 hp⟩
theorem st_out (W0 w : World) (b : Nat) (l : List UInt8) (h : St W0 b l w) (hl : l.length ≤ 1000000) : Calls Tryd.prog 28 #[.pointer (some ⟨b, 0, none⟩)] w (CopyIs w l) := by
  obtain ⟨v, h1, h2⟩ := h
  exact out_any _ b v l w h1 (by omega)
theorem St.new (w : World) : St w w.heap.size [] (w.alloc (.cells #[.slice none 0 0] 95)) := ⟨_, wrAt_new w, below_new _ _⟩
theorem u1 {x : Int} (h0 : 0 ≤ x) (h1 : x < 256) : UFits ((1 : Nat) : Int) x := ⟨by omega, h0, by simpa using h1⟩
theorem u2 {x : Int} (h0 : 0 ≤ x) (h1 : x < 65536) : UFits ((2 : Nat) : Int) x := ⟨by omega, h0, by simpa using h1⟩
/-- Ints that lie somewhere stay, where blocks that are no bytes and no Writer stay. -/
theorem copyIs_world {w : World} {l : List UInt8} {e : Ending} {w' : World} (h : CopyIs w l e w') : Below w.heap.size w w' := by
  obtain ⟨_, _, _, h⟩ := h
  exact h

/-- Numbers as words. -/
def wordsB (l : List Int) : List UInt8 := l.flatMap (be 2)
theorem wordsB_length (l : List Int) : (wordsB l).length = 2 * l.length := by
  induction l with
  | nil => rfl
  | cons x l ih => simp only [wordsB, List.flatMap_cons, List.length_append, be_length, List.length_cons] at ih ⊢; omega
theorem wordsB_take (l : List Int) (i : Nat) (hi : i < l.length) : wordsB (l.take (i + 1)) = wordsB (l.take i) ++ be 2 l[i] := by
  have e : l.take (i + 1) = l.take i ++ [l[i]] := (List.take_append_getElem hi).symm
  unfold wordsB
  rw [e, List.flatMap_append]
  simp
set_option maxRecDepth 100000 in
set_option maxHeartbeats 4000000 in
theorem words_any (v : Value) (l : List Int) (w : World) (hv : IntsAt w v l) (hb : ∀ x ∈ l, 0 ≤ x ∧ x ≤ 65535) (hl : l.length ≤ 100000) : Calls Tryd.prog 70 #[v] w (CopyIs w (wordsB l)) := by
  have HV := Lib.hid hv
  have HB := Lib.hid hb
  have HL := Lib.hid hl
  have H0 := Lib.hid (St.new w)
  obtain ⟨ao, cap, rfl, _⟩ := hv
  clear hb hl
  go_enter Tryd.func70, Tryd.ntmps70
  go_wp2_with fail
  refine (new_writer w).mono ?_
  rintro e w1 ⟨rfl, rfl⟩
  go_wp2_with fail
  go_loopg [9] l.length (fun k s9 wr => ∃ i : Nat, i ≤ l.length ∧ k = l.length - i ∧ s9 = .int .i64 i ∧ Hid (St w w.heap.size (wordsB (l.take i)) wr))
  case atStart => exact ⟨0, Nat.zero_le _, rfl, rfl, Lib.hid (by simpa [wordsB] using H0.out)⟩
  case round =>
    obtain ⟨i, hi, rfl, rfl, hbr⟩ := hrel
    by_cases hlt : i < l.length
    · obtain ⟨vv, hw1, hbb⟩ := hbr.out
      obtain ⟨ao', cap', he, hc⟩ := HV.out.on hbb
      obtain ⟨b, off, hb, hcell⟩ := hc i hlt
      simp only [Value.slice.injEq] at he
      obtain ⟨rfl, _, rfl⟩ := he
      subst hb
      clear hc hw1 hbb
      have HS := Lib.hid (wordsB_take l i hlt)
      have HX := Lib.hid (HB.out l[i] (List.getElem_mem hlt))
      have HLn : Hid ((wordsB (l.take i)).length ≤ 1000000) := Lib.hid (by rw [wordsB_length, List.length_take]; have := HL.out; omega)
      generalize l[i] = x at hcell HS HX
      have hi0 : (0 : Int) ≤ (i : Int) := by omega
      have hil : (i : Int) < (l.length : Int) := by omega
      go_wp2_with fail
      refine (st_b w _ _ _ 2 x hbr.out HLn.out (u2 (by have := HX.out; omega) (by have := HX.out; omega))).mono ?_
      rintro e w1 ⟨rfl, hs, _⟩
      rw [← HS.out] at hs
      have HS1 := Lib.hid hs
      clear hs
      go_wp2
      go_roundg (l.length - (i + 1))
      case measure => omega
      case rel => exact ⟨i + 1, by omega, rfl, next_int i (by have := HL.out; omega), HS1⟩
    · have hil : (l.length : Int) ≤ (i : Int) := by omega
      have HQ : Hid (St w w.heap.size (wordsB l) wr) := Lib.hid (by have h2 := hbr.out; rw [List.take_of_length_le (by omega)] at h2; exact h2)
      go_wp2_with fail
      refine (st_out w _ _ _ HQ.out (by rw [wordsB_length]; have := HL.out; omega)).mono ?_
      rintro e w2 ⟨x, rfl, hx, hbx⟩
      have HX : Hid (w2.ownsRow w.heap.size 5 1 x (wordsB l).length (bcells (wordsB l)) ∧ Below w.heap.size w w2) := Lib.hid (by
        obtain ⟨_, _, h3⟩ := HQ.out
        exact ⟨ownsRow_base hx h3.size, h3.trans (hbx.mono h3.size)⟩)
      clear hx hbx
      go_wp2
      go_ret
      exact ⟨_, rfl, HX.out⟩
end Go.Proofs.YtngfaailbkadfaaDoor
