/- yardlaw2.WireBack answers true for every list of fields and every number; memory that was there stands. -/
import Derived.Test.YtpdngcjgfngnjaaDoorBack
namespace Go.Proofs.YtpdngcjgfngnjaaDoor
open Go.RowKit Go.Extern.Stop Go.Stop Go.Extern

theorem info39 : (Tryd.prog.info? 39).map (fun i => (i.zero, i.size, i.bytes)) = some (some (.agg #[.int .i64 0, .int .i64 0, .int .i64 0, .slice none 0 0]), 4, 48) := by kernel_rfl
def opsCells (l : List OpV) : List Value := l.flatMap opCells
theorem opsCells_append (l m : List OpV) : opsCells (l ++ m) = opsCells l ++ opsCells m := by simp [opsCells]
theorem opsCells_length : ∀ l : List OpV, (opsCells l).length = l.length * 4
  | [] => rfl
  | o :: l => by
    have := opsCells_length l
    simp only [opsCells, List.flatMap_cons, List.length_append, List.length_cons] at this ⊢
    rw [this]
    simp [opCells]
    omega
theorem opsCells_get : ∀ (l : List OpV) (i : Nat) (h : i < l.length), (opsCells l)[i * 4]? = some (.int .i64 l[i].kind) ∧ (opsCells l)[i * 4 + 1]? = some (.int .i64 l[i].n) ∧ (opsCells l)[i * 4 + 2]? = some (.int .i64 l[i].x) ∧ (opsCells l)[i * 4 + 3]? = some l[i].bv
  | _ :: _, 0, _ => ⟨rfl, rfl, rfl, rfl⟩
  | o :: l, i + 1, h => by
    have := opsCells_get l i (by simpa using h)
    have e : (i + 1) * 4 = i * 4 + 1 + 1 + 1 + 1 := by omega
    rw [e]
    simpa [opsCells, opCells] using this
theorem ops_of_row {w : World} {base : Nat} {v : Value} {L : List OpV} (h : w.ownsRow base 39 4 v L.length (opsCells L)) (hB : ∀ o ∈ L, BytesAt w o.bv o.b) : OpsAt w v L := by
  rcases h.2 with ⟨hv, h0⟩ | ⟨g, cap, cur, hv, _⟩
  · exact ⟨none, 0, by rw [hv, h0], hB, fun i hi => by omega⟩
  · refine ⟨some ⟨g, 0, none⟩, cap, hv, hB, fun i hi => ⟨g, 0, rfl, ?_⟩⟩
    subst hv
    obtain ⟨h0, h1, h2, h3⟩ := opsCells_get L i hi
    simp only [Nat.zero_add]
    exact ⟨(h.cellAt (i * 4) (by omega)).trans h0, (h.cellAt (i * 4 + 1) (by omega)).trans h1, (h.cellAt (i * 4 + 2) (by omega)).trans h2, (h.cellAt (i * 4 + 3) (by omega)).trans h3⟩
/-- A row's block has the row's type. -/
theorem row_type {w : World} {base : Nat} {e : TypeId} {size : Nat} {v : Value} {n : Nat} {xs : List Value} (h : w.ownsRow base e size v n xs) {k : Nat} (hk : v.ownBlock = some k) : ∃ cs, w.heap[k]? = some (.cells cs e (0, 0)) := by
  rcases h.2 with ⟨hv, _⟩ | ⟨g, cap, cur, hv, _, hh, _⟩
  · rw [hv] at hk; cases hk
  · rw [hv] at hk
    have : g = k := by simpa [Value.ownBlock] using hk
    exact ⟨cur, by rw [← this]; exact hh⟩
theorem types_apart {w : World} {k : Nat} {c d : Array Value} {s t : TypeId} {f g : Nat × Nat} (h1 : w.heap[k]? = some (.cells c s f)) (h2 : w.heap[k]? = some (.cells d t g)) (hst : s ≠ t) : False := by
  rw [h1] at h2
  simp only [Option.some.injEq, Obj.cells.injEq] at h2
  exact hst h2.2.1
theorem encAll_length : ∀ L : List OpV, (∀ o ∈ L, opFits o ∧ o.b.length ≤ 20000) → (encAll L).length ≤ 6 * L.length + fewSum L
  | [], _ => by simp [encAll]
  | o :: L, h => by
    have h1 := encAll_length L (fun x hx => h x (List.mem_cons_of_mem _ hx))
    have h2 := h o (List.mem_cons_self ..)
    have h3 := opEnc_length o h2.1 h2.2
    simp only [encAll, List.flatMap_cons, List.length_append, fewSum, List.length_cons] at h1 ⊢
    omega

/-- What stands while fields are written: a list of those that were taken, and the Writer. -/
structure PutInv (w : World) (b : Nat) (l : List OpV) (i : Nat) (vin : Value) (L : List OpV) (u : Value) (wr : World) : Prop where
  mem : ∀ o ∈ L, o ∈ l ∧ opFits o
  len : L.length ≤ i
  sum : fewSum L ≤ fewSum (l.take i)
  row : wr.ownsRow w.heap.size 39 4 vin L.length (opsCells L)
  wrt : WrAt wr w.heap.size b u (encAll L)
  below : Below w.heap.size w wr
theorem PutInv.bad {w wr w2 : World} {b : Nat} {l : List OpV} {i : Nat} {vin : Value} {L : List OpV} {u : Value} (h : PutInv w b l i vin L u wr) (hi : i < l.length) (hb : Below wr.heap.size wr w2) : PutInv w b l (i + 1) vin L u w2 :=
  ⟨h.mem, Nat.le_succ_of_le h.len, Nat.le_trans h.sum (by rw [fewSum_take_succ l i hi]; exact Nat.le_add_right _ _), ownsRow_off h.row (Off.of_below (fun _ => False) hb) (fun _ _ f => f), h.wrt.on hb, h.below.trans (hb.mono h.below.size)⟩
/-- put has taken a field. -/
theorem PutInv.ok {w wr w2 : World} {b : Nat} {l : List OpV} {i : Nat} {vin : Value} {L : List OpV} {u : Value} {o : OpV} (h : PutInv w b l i vin L u wr) (hp : PutIs wr w.heap.size b u (encAll L) (opEnc o) w2) (hwb : w.heap.size ≤ b) :
    ∃ u2, w2.ownsRow w.heap.size 39 4 vin L.length (opsCells L) ∧ WrAt w2 w.heap.size b u2 (encAll (L ++ [o])) ∧ Below w.heap.size w w2 := by
  obtain ⟨u2, h1, h2, _⟩ := hp
  refine ⟨u2, ownsRow_off h.row h2 (fun k hk s => ?_), by rw [encAll_append, encAll_one]; exact h1, h.below.trans (h2.below h.below.size (fun k s => ?_))⟩
  · obtain ⟨cs, hc⟩ := row_type h.row hk
    rcases s with s | s
    · subst s
      exact types_apart hc h.wrt.obj (by decide)
    · obtain ⟨cs2, hc2⟩ := row_type h.wrt.own s
      exact types_apart hc hc2 (by decide)
  · rcases s with s | s
    · omega
    · exact (h.wrt.own.lt k s).1
/-- .. and the list has grown by it. -/
theorem PutInv.grown {w wr w2 w3 : World} {b : Nat} {l : List OpV} {i : Nat} {vin v3 : Value} {L : List OpV} {u u2 : Value} {ob : Obj} (h : PutInv w b l i vin L u wr) (hi : i < l.length) (hf : opFits l[i])
    (hr : w2.ownsRow w.heap.size 39 4 vin L.length (opsCells L)) (hw : WrAt w2 w.heap.size b u2 (encAll (L ++ [l[i]]))) (hb : Below w.heap.size w w2)
    (hown : w3.ownsRow w.heap.size 39 4 v3 (L.length + 1) (opsCells L ++ opCells l[i])) (hg : (w2.alloc ob).grownBy w3 vin.ownBlock) : PutInv w b l (i + 1) v3 (L ++ [l[i]]) u2 w3 := by
  have hb2 : Below w2.heap.size w2 (w2.alloc ob) := (Below.refl _ _).alloc (Nat.le_refl _) _
  have hr2 := ownsRow_off hr (Off.of_below (fun _ => False) hb2) (fun _ _ f => f)
  have hw2 := hw.on hb2
  refine ⟨fun o ho => ?_, by have := h.len; simp; omega, ?_, by rw [List.length_append, opsCells_append]; simpa [opsCells] using hown, hw2.off (Off.of_grown hg) (fun s => ?_) (fun k hk s => ?_), (hb.trans (hb2.mono hb.size)).grown hg (Nat.le_trans hb.size hb2.size) (fun k hk => (hr.lt k hk).1)⟩
  · rcases List.mem_append.1 ho with ho | ho
    · exact h.mem o ho
    · rw [List.mem_singleton.1 ho]
      exact ⟨List.getElem_mem _, hf⟩
  · have := h.sum
    rw [fewSum_append, fewSum_take_succ l i hi]
    simp only [fewSum]
    omega
  · obtain ⟨cs, hc⟩ := row_type hr2 s
    exact types_apart hc hw2.obj (by decide)
  · obtain ⟨cs, hc⟩ := row_type hr2 s
    obtain ⟨cs2, hc2⟩ := row_type hw2.own hk
    exact types_apart hc hc2 (by decide)

set_option maxRecDepth 100000 in
set_option maxHeartbeats 4000000 in
theorem backlaw_any (v : Value) (l : List OpV) (cut : Int) (w : World) (hs : OpsAt w v l) (hg : ErrT w) :
    Calls Tryd.prog 5 #[v, .int .i64 cut] w fun e w' => e = .returned (.bool true) ∧ Below w.heap.size w w' := by
  obtain ⟨i0, hi0, hz0, hz1, hz2⟩ := info_parts info39
  have HG := Lib.hid hg
  have HS := Lib.hid hs
  obtain ⟨ao, cap, rfl, _⟩ := hs
  clear hg
  go_enter Tryd.func5, Tryd.ntmps5
  go_wp2_with fail
  refine (first_any w HG.out).mono ?_
  rintro e w1 ⟨rfl, hb⟩
  have HB1 := Lib.hid hb
  clear hb
  go_wp2_with fail
  refine (new_writer w1).mono ?_
  rintro e w2 ⟨rfl, hw2⟩
  have HB2 : Hid (Below w.heap.size w w2) := Lib.hid (by rw [hw2]; exact HB1.out.trans ((below_new w1 (.cells #[.slice none 0 0] 83)).mono HB1.out.size))
  have HW2 : Hid (WrAt w2 w.heap.size w1.heap.size noRow []) := Lib.hid (by rw [hw2]; exact ⟨HB1.out.size, (wrAt_new w1).obj, World.ownsRow_nil _ _ _ _⟩)
  have hwb : w.heap.size ≤ w1.heap.size := HB1.out.size
  clear hw2
  go_wp2_with fail
  refine (few_any _ l w2 (HS.out.on HB2.out)).mono ?_
  rintro e w3 ⟨rfl, rfl⟩
  cases hfew : fewB l with
  | false =>
    clear hfew
    go_wp2_with fail
    refine (first_any w2 (HG.out.up HB2.out)).mono ?_
    rintro e w3 ⟨rfl, hb⟩
    have HB3 := Lib.hid (HB2.out.trans (hb.mono HB2.out.size))
    clear hb
    go_wp2
    go_ret
    exact ⟨rfl, HB3.out⟩
  | true =>
    obtain ⟨hl1, hl2⟩ := few_bound hfew
    have HSM : Hid (fewSum l ≤ 20000) := Lib.hid hl2
    have HBB : Hid (∀ o ∈ l, o.b.length ≤ 20000) := Lib.hid (fun o ho => by have := fewSum_mem ho; omega)
    clear hfew hl2
    go_wp2
    go_loopg [6, 7] l.length (fun q s6 s7 wr => ∃ i : Nat, i ≤ l.length ∧ q = l.length - i ∧ s7 = .int .i64 i ∧ Hid (∃ L u, PutInv w w1.heap.size l i s6 L u wr))
    case atStart => exact ⟨0, Nat.zero_le _, rfl, rfl, Lib.hid ⟨[], noRow, ⟨fun o ho => by simp at ho, Nat.le_refl _, by simp [fewSum], World.ownsRow_nil _ _ _ _, HW2.out, HB2.out⟩⟩⟩
    case round =>
      obtain ⟨i, hi, rfl, rfl, hinv⟩ := hrel
      obtain ⟨L, u, hP⟩ := hinv.out
      obtain ⟨wo, hwo⟩ : ∃ x, x = wr := ⟨_, rfl⟩
      subst hwo
      have HP := Lib.hid hP
      have hLl : L.length ≤ 1000 := Nat.le_trans hP.len (Nat.le_trans hi hl1)
      have HEL : Hid ((encAll L).length ≤ 26000) := Lib.hid (by
        have h1 := encAll_length L (fun o ho => ⟨(hP.mem o ho).2, HBB.out o (hP.mem o ho).1⟩)
        have h2 := hP.sum
        have h3 : fewSum (l.take i) ≤ fewSum l := by
          have := fewSum_append (l.take i) (l.drop i)
          rw [List.take_append_drop] at this
          omega
        have := HSM.out
        omega)
      by_cases hlt : i < l.length
      · obtain ⟨bb, off, hao, hcell, hby⟩ := HS.out.at i hlt
        cases hao
        have HC := Lib.hid hcell
        have HBy := Lib.hid hby
        obtain ⟨c0, c1, c2, c3⟩ := hcell.on hP.below
        obtain ⟨ax, cx, hbv, _⟩ := id hby
        rw [hbv] at c3
        have HBV := Lib.hid hbv
        obtain ⟨av, cv, hvin⟩ : ∃ a c, u6 = .slice a L.length c := by
          rcases hP.row.2 with ⟨hv, h0⟩ | ⟨g, cap', cur, hv, _⟩
          · exact ⟨none, 0, by rw [hv, h0]⟩
          · exact ⟨_, _, hv⟩
        subst hvin
        clear hinv hP hcell hby hbv
        by_cases hf : opFits l[i]
        · have HF := Lib.hid hf
          clear hf
          go_wp2_with fail
          have hput := put_ok w.heap.size w1.heap.size u (encAll L) l[i] wo HP.out.wrt (by have := HEL.out; have := HBB.out l[i] (List.getElem_mem _); omega) (HBy.out.on HP.out.below) HF.out
          rw [HBV.out] at hput
          refine hput.mono ?_
          rintro e w4 ⟨rfl, hp⟩
          obtain ⟨u2, hr4, hw4, hb4⟩ := HP.out.ok hp hwb
          have HR4 := Lib.hid hr4
          have HW4 := Lib.hid hw4
          have HB4 := Lib.hid hb4
          obtain ⟨d0, d1, d2, d3⟩ := HC.out.on hb4
          rw [HBV.out] at d3
          have hsz4 : w.heap.size ≤ w4.heap.size := hb4.size
          clear hput hp hr4 hw4 hb4 c0 c1 c2 c3
          go_wp2_with (at_builtin; refine wpList_append_lies _ rfl _ _ 23 rfl w.heap.size 39 i0 _ 4 48 Tryd.underlying23 hi0 hz0 hz1 hz2 rfl (by omega) _ L.length (opsCells L) rfl (HR4.out.alloc _) ⟨w4.heap.size, 0, none⟩ 1 1 [.int .i64 l[i].kind, .int .i64 l[i].n, .int .i64 l[i].x, .slice ax l[i].b.length cx] rfl rfl (World.news_of_block (cs := #[.int .i64 l[i].kind, .int .i64 l[i].n, .int .i64 l[i].x, .slice ax l[i].b.length cx]) (heap_alloc_new w4 _)) (by simp [Value.oneCell']) (by omega) (by unfold maxLen; omega) (by omega) (by simp; omega) (w4.heap.size + 1) (by simp) ?_)
          intro g cp w5 hown hgrow hat hg5
          have hnews : [.int .i64 l[i].kind, .int .i64 l[i].n, .int .i64 l[i].x, .slice ax l[i].b.length cx] = opCells l[i] := by unfold opCells; rw [HBV.out]
          rw [hnews] at hown
          have HPn := Lib.hid (HP.out.grown hlt HF.out HR4.out HW4.out HB4.out hown hgrow)
          clear hown hgrow hat hg5 hnews d0 d1 d2 d3
          go_wp2
          go_roundg (l.length - (i + 1))
          case measure => omega
          case rel => exact ⟨i + 1, by omega, rfl, by go_num, Lib.hid ⟨_, _, HPn.out⟩⟩
        · have HF := Lib.hid hf
          clear hf
          go_wp2_with fail
          have hput := put_bad w.heap.size w1.heap.size u (encAll L) l[i] wo HP.out.wrt (HBy.out.on HP.out.below) HF.out
          rw [HBV.out] at hput
          refine hput.mono ?_
          rintro e w4 ⟨y, rfl, hy, hb⟩
          obtain ⟨_, _, rfl, _⟩ := id hy
          have HPn := Lib.hid (HP.out.bad hlt hb)
          clear hput hy hb c0 c1 c2 c3
          go_wp2
          go_roundg (l.length - (i + 1))
          case measure => omega
          case rel => exact ⟨i + 1, by omega, rfl, by go_num, Lib.hid ⟨_, _, HPn.out⟩⟩
      · have HMem := Lib.hid hP.mem
        obtain ⟨av, cv, hvin⟩ : ∃ a c, u6 = .slice a L.length c := by
          rcases hP.row.2 with ⟨hv, h0⟩ | ⟨g, cap', cur, hv, _⟩
          · exact ⟨none, 0, by rw [hv, h0]⟩
          · exact ⟨_, _, hv⟩
        subst hvin
        clear hinv hP
        go_wp2_with fail
        refine (out_any _ _ u _ wo HP.out.wrt (by have := HEL.out; omega)).mono ?_
        rintro e w4 ⟨vo, rfl, ho, hb⟩
        have hm := bytesAt_own ho
        obtain ⟨ab, cb, rfl⟩ := row_form ho
        have hcb := row_cap ho
        have HM4 := Lib.hid hm
        have HO4 := Lib.hid ho
        have HB4 := Lib.hid (HP.out.below.trans (hb.mono HP.out.below.size))
        have HIN4 : Hid (OpsAt w4 (.slice av L.length cv) L) := Lib.hid (ops_of_row (ownsRow_off HP.out.row (Off.of_below (fun _ => False) hb) (fun _ _ f => f)) (fun o hoL => by
          obtain ⟨_, _, _, hB, _⟩ := HS.out
          exact (hB o (HMem.out o hoL).1).on HB4.out))
        clear ho hm hb
        go_wp2_with fail
        refine (back_any _ _ (encAll L) [] L w4 HM4.out (List.append_nil _) (by have := HEL.out; omega) HIN4.out hLl (fun o hoL => (HMem.out o hoL).2)).mono ?_
        rintro e w5 ⟨rfl, hb⟩
        have HM5 := Lib.hid (HM4.out.on hb)
        have HIN5 := Lib.hid (HIN4.out.on hb)
        have HB5 := Lib.hid (HB4.out.trans (hb.mono HB4.out.size))
        clear hb
        rw [show ([] : List UInt8).isEmpty = true from rfl]
        have hel := HEL.out
        have HNIL : Hid (0 < (encAll L).length → ∃ a, ab = some a) := Lib.hid (fun h => by
          obtain ⟨g, c, he, _⟩ := row_lit HO4.out h
          simp only [Value.slice.injEq] at he
          exact ⟨_, he.1⟩)
        by_cases h1 : cut < 0
        · go_wp2_with fail
          refine (first_any w5 (HG.out.up HB5.out)).mono ?_
          rintro e w6 ⟨rfl, hb⟩
          have HB6 := Lib.hid (HB5.out.trans (hb.mono HB5.out.size))
          clear hb
          go_wp2
          go_ret
          exact ⟨rfl, HB6.out⟩
        by_cases h2 : ((encAll L).length : Int) ≤ cut
        · go_wp2_with fail
          refine (first_any w5 (HG.out.up HB5.out)).mono ?_
          rintro e w6 ⟨rfl, hb⟩
          have HB6 := Lib.hid (HB5.out.trans (hb.mono HB5.out.size))
          clear hb
          go_wp2
          go_ret
          exact ⟨rfl, HB6.out⟩
        · obtain ⟨c, hc⟩ : ∃ c : Nat, cut = (c : Int) := ⟨cut.toNat, by omega⟩
          subst hc
          have hcl : c < (encAll L).length := by omega
          obtain ⟨aa, haa⟩ := HNIL.out (by omega)
          subst haa
          have htl : ((encAll L).take c).length = c := by simp; omega
          have HCUT : Hid (∀ W : World, Below w5.heap.size w5 W → BytesAt W (.slice (some aa) c cb) ((encAll L).take c)) := Lib.hid (fun W hW => by
            have h := bytes_prefix (l := (encAll L).take c) (m := (encAll L).drop c) (by rw [List.take_append_drop]; exact HM5.out.on hW)
            rw [htl] at h
            exact h)
          have HTL := Lib.hid htl
          clear htl
          go_wp2_with fail
          refine (first_any w5 (HG.out.up HB5.out)).mono ?_
          rintro e w6 ⟨rfl, hb⟩
          have HB6 := Lib.hid (HB5.out.trans (hb.mono HB5.out.size))
          have HC6 := Lib.hid (HCUT.out w6 hb)
          have HIN6 := Lib.hid (HIN5.out.on hb)
          clear hb
          go_wp2_with fail
          refine (back_any _ _ ((encAll L).take c) ((encAll L).drop c) L w6 HC6.out (List.take_append_drop _ _) (by have := HEL.out; rw [HTL.out]; omega) HIN6.out hLl (fun o hoL => (HMem.out o hoL).2)).mono ?_
          rintro e w7 ⟨rfl, hb⟩
          have HB7 := Lib.hid (HB6.out.trans (hb.mono HB6.out.size))
          clear hb
          rw [isEmpty_false (show 0 < ((encAll L).drop c).length by simp; omega)]
          go_wp2
          go_ret
          exact ⟨rfl, HB7.out⟩
end Go.Proofs.YtpdngcjgfngnjaaDoor
