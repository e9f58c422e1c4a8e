/- yardlaw2.WireCuts answers true for every row of bytes of at most 2^47 bytes and every number; memory that was there stands. -/
import Derived.Test.YtpdngcjgfngnjaaDoorThree
import Derived.BigFrame
namespace Go.Proofs.YtpdngcjgfngnjaaDoor
open Go.RowKit Go.Extern.Stop Go.Stop Go.Extern

/-- append onto a row of one's own, at an operation whose guard says yes. -/
theorem want_append (w : World) {ops : Array Oper} {rest : List Oper} {o : Oper} {a : Act} {Q : Exit → Act → World → Prop} (hw : Region.wanted o (yielded ops a.tmps) = true) (s x : Operand)
    (ho : o.op = .call { callee := .builtin .append, args := #[s, x], argTypes := #[22, 22] }) (base : Nat)
    (v : Value) (n : Nat) (xs : List Value) (hs : a.eval s = v) (hown : w.ownsRow base 5 1 v n xs)
    (ad : Addr) (m c : Nat) (news : List Value) (hx : a.eval x = .slice (some ad) m c) (hl : news.length = m * 1) (hnews : ∀ j u, news[j]? = some u → w.cell? (ad.add j) = some u) (h1 : ∀ u ∈ news, u.oneCell' = true)
    (h63 : n + m ≤ maxLen) (hbytes : (n + m) * 1 ≤ 140737488355328) (hbase : base ≤ w.heap.size)
    (h : ∀ v' w', w'.ownsRow base 5 1 v' (n + m) (xs ++ news) → w.grownBy w' v.ownBlock → wpList Tryd.prog ops Q rest (a.put o.dst v') w') : wpList Tryd.prog ops Q (o :: rest) a w := by
  obtain ⟨i0, hi0, hz0, hz1, hz2⟩ := info_parts info5
  obtain ⟨v', w', hr, h2, h3, _, _⟩ := run_append_own_at (P := Tryd.prog) w base 22 o.type 5 i0 _ 1 1 Tryd.underlying22 hi0 hz0 hz1 hz2 rfl (by omega) v n xs hown ad m c news hl hnews h1 h63 hbytes hbase
  refine BigFrame.wpList_want hw fun K hK => ?_
  unfold Oper.wp execOp
  simp only [ho, resolve, invoke, builtin, Sem.run_bind, Sem.run_pure, Result.andThen_ok, List.map_toArray, List.map_cons, List.map_nil, hs, hx, hr]
  exact hK _ _ (h v' w' h2 h3)

theorem bytesAt_news {w : World} {a : Addr} {n c : Nat} {l : List UInt8} (h : BytesAt w (.slice (some a) n c) l) : ∀ j u, (bcells l)[j]? = some u → w.cell? (a.add j) = some u := by
  obtain ⟨ao, cap, e, hc⟩ := h
  simp only [Value.slice.injEq] at e
  obtain ⟨rfl, _, _⟩ := e
  exact bytes_news hc

theorem row_cap {w : World} {base n c : Nat} {a : Option Addr} {xs : List Value} (h : w.ownsRow base 5 1 (.slice a n c) n xs) : n ≤ c := by
  rcases h.2 with ⟨hv, h0⟩ | ⟨g, cap', cur, hv, _, _, h1, _⟩
  · rw [h0]; exact Nat.zero_le _
  · simp only [Value.slice.injEq] at hv
    rw [hv.2.2]; exact h1

set_option maxRecDepth 100000 in
set_option maxHeartbeats 1000000 in
theorem cuts_out (v : Value) (l : List UInt8) (n : Int) (w : World) (hv : BytesAt w v l) (hg : ErrT w) (hl : l.length ≤ 140737488355328) (hout : 20000 < l.length ∨ n < 0 ∨ (l.length : Int) < n) :
    Calls Tryd.prog 10 #[v, .int .i64 n] w fun e w' => e = .returned (.bool true) ∧ Below w.heap.size w w' := by
  have HG := Lib.hid hg
  have HV := Lib.hid hv
  have HL := Lib.hid hl
  obtain ⟨ao, cap, rfl, _⟩ := hv
  clear hg
  go_enter Tryd.func10, Tryd.ntmps10
  go_wp2_with fail
  refine (first_any w HG.out).mono ?_
  rintro e w1 ⟨rfl, hb⟩
  have HB1 := Lib.hid hb
  clear hb
  go_wp2_with fail
  refine (new_reader _ _ w1 (HV.out.on HB1.out) HL.out).mono ?_
  rintro e w2 ⟨r, vr, rfl, hr, hb⟩
  have HB2 := Lib.hid (HB1.out.trans (hb.mono HB1.out.size))
  clear hr hb
  by_cases h1 : 20000 < l.length
  · go_wp2_with fail
    refine (first_any w2 (HG.out.up HB2.out)).mono ?_
    rintro e w3 ⟨rfl, hb⟩
    have HB3 := Lib.hid (HB2.out.trans (hb.mono HB2.out.size))
    clear hb
    go_wp2
    go_ret
    exact ⟨rfl, HB3.out⟩
  by_cases h2 : n < 0
  · go_wp2_with fail
    refine (first_any w2 (HG.out.up HB2.out)).mono ?_
    rintro e w3 ⟨rfl, hb⟩
    have HB3 := Lib.hid (HB2.out.trans (hb.mono HB2.out.size))
    clear hb
    go_wp2
    go_ret
    exact ⟨rfl, HB3.out⟩
  have h3 : (l.length : Int) < n := by omega
  go_wp2_with fail
  refine (first_any w2 (HG.out.up HB2.out)).mono ?_
  rintro e w3 ⟨rfl, hb⟩
  have HB3 := Lib.hid (HB2.out.trans (hb.mono HB2.out.size))
  clear hb
  go_wp2
  go_ret
  exact ⟨rfl, HB3.out⟩

set_option maxRecDepth 100000 in
set_option maxHeartbeats 4000000 in
theorem cuts_in (v : Value) (l : List UInt8) (n : Nat) (w : World) (hv : BytesAt w v l) (hg : ErrT w) (hl : l.length ≤ 20000) (hn : n ≤ l.length) :
    Calls Tryd.prog 10 #[v, .int .i64 (n : Int)] w fun e w' => e = .returned (.bool true) ∧ Below w.heap.size w w' := by
  have HG := Lib.hid hg
  have HV := Lib.hid hv
  have HL := Lib.hid hl
  have HN := Lib.hid hn
  obtain ⟨ao, cap, rfl, _⟩ := hv
  clear hg
  go_enter Tryd.func10, Tryd.ntmps10
  go_wp2_with fail
  refine (first_any w HG.out).mono ?_
  rintro e w1 ⟨rfl, hb⟩
  have HB1 := Lib.hid hb
  clear hb
  go_wp2_with fail
  refine (new_reader _ _ w1 (HV.out.on HB1.out) (by have := HL.out; omega)).mono ?_
  rintro e w2 ⟨r, vr, rfl, hr, hb⟩
  have HB2 := Lib.hid (HB1.out.trans (hb.mono HB1.out.size))
  have HR2 := Lib.hid hr
  have hrb : w.heap.size ≤ r := Nat.le_trans HB1.out.size hr.base
  have hvr : Hid (∀ k, vr.ownBlock = some k → k < w2.heap.size) := Lib.hid (fun k hk => (hr.own.lt k hk).2)
  clear hr hb
  go_wp2_with fail
  refine (bytes_ok _ r vr l 0 n w2 HR2.out (by have := HN.out; omega)).mono ?_
  rintro e w3 ⟨⟨x, rfl, hx⟩, hr, ho⟩
  obtain ⟨ax, cx, rfl⟩ := row_form hx
  rw [List.drop_zero] at hx
  have HX3 := Lib.hid hx
  have HR3 := Lib.hid hr
  have HB3 := Lib.hid (HB2.out.trans (ho.below HB2.out.size (fun k e => by subst e; exact hrb)))
  have s3 : w2.heap.size ≤ w3.heap.size := ho.size
  clear hx hr ho
  go_wp2_with fail
  refine (left_any _ r vr l _ w3 HR3.out).mono ?_
  rintro e w4 ⟨rfl, hb⟩
  have HR4 := Lib.hid (HR3.out.on hb)
  have HX4 := Lib.hid (ownsRow_on HX3.out hb)
  have HB4 := Lib.hid (HB3.out.trans (hb.mono HB3.out.size))
  have s4 : w3.heap.size ≤ w4.heap.size := hb.size
  clear hb
  go_wp2_with fail
  refine (place_any _ r vr l _ w4 HR4.out).mono ?_
  rintro e w5 ⟨rfl, rfl⟩
  have hl1 : ((l.length : Int) - (n : Int)) = ((l.length - n : Nat) : Int) := by omega
  go_wp2_with fail
  refine (bytes_ok _ r vr l (0 + n) (l.length - n) w4 HR4.out (by have := HN.out; omega)).mono ?_
  rintro e w5 ⟨⟨y, rfl, hy⟩, hr, ho⟩
  obtain ⟨ay, cy, rfl⟩ := row_form hy
  rw [Nat.zero_add, List.take_of_length_le (show (List.drop n l).length ≤ l.length - n by simp)] at hy
  rw [Nat.zero_add, show n + (l.length - n) = l.length by have := HN.out; omega] at hr
  have HY5 := Lib.hid hy
  have HR5 := Lib.hid hr
  have HX5 := Lib.hid (ownsRow_off HX4.out ho (fun k hk e => by subst e; exact row_no HX4.out HR4.out.obj (by decide) hk))
  have HB5 := Lib.hid (HB4.out.trans (ho.below HB4.out.size (fun k e => by subst e; exact hrb)))
  have s5 : w4.heap.size ≤ w5.heap.size := ho.size
  clear hy hr ho
  go_wp2_with fail
  refine (bytes_bad _ r vr l l.length 1 2 w5 HR5.out (.inr ⟨by omega, by rw [Nat.sub_self]; decide, rfl⟩)).mono ?_
  rintro e w6 ⟨z, rfl, hz, hb⟩
  obtain ⟨_, _, rfl, _⟩ := id hz
  have HR6 := Lib.hid (HR5.out.on hb)
  have HX6 := Lib.hid (ownsRow_on HX5.out hb)
  have HY6 := Lib.hid (ownsRow_on HY5.out hb)
  have HB6 := Lib.hid (HB5.out.trans (hb.mono HB5.out.size))
  have s6 : w5.heap.size ≤ w6.heap.size := hb.size
  clear hz hb
  go_wp2_with fail
  refine (first_any w6 (HG.out.up HB6.out)).mono ?_
  rintro e w7 ⟨rfl, hb⟩
  have HR7 := Lib.hid (HR6.out.on hb)
  have HX7 := Lib.hid (ownsRow_on HX6.out hb)
  have HY7 := Lib.hid (ownsRow_on HY6.out hb)
  have HB7 := Lib.hid (HB6.out.trans (hb.mono HB6.out.size))
  have s7 : w6.heap.size ≤ w7.heap.size := hb.size
  clear hb
  have hxc : n ≤ cx := row_cap HX7.out
  have hw27 : Hid (w2.heap.size ≤ w7.heap.size) := Lib.hid (by omega)
  clear s3 s4 s5 s6 s7
  cases ay with
  | none =>
    have h0 : l.length - n = 0 := by
      rcases HY7.out.2 with ⟨_, h0⟩ | ⟨g, cap', cur, hv, _⟩
      · exact h0
      · simp at hv
    have hnl : n = l.length := by have := HN.out; omega
    have HXB : Hid (BytesAt w7 (.slice ax n cx) l) := Lib.hid (by
      have := HX7.out
      rw [hnl, List.take_length] at this
      rw [hnl]
      exact bytesAt_own this)
    obtain ⟨w8, hw8⟩ : ∃ x, x = w7 := ⟨_, rfl⟩
    have HB8 : Hid (Below w.heap.size w w8) := Lib.hid (by rw [hw8]; exact HB7.out)
    have HR8 : Hid (RdAt w8 _ r vr l l.length) := Lib.hid (by rw [hw8]; exact HR7.out)
    rw [← hw8] at HXB ⊢
    clear hw8 hl1
    rw [h0]
    have hnl1 : l.length ≤ n := by omega
    clear h0 hnl
    cases ax with
    | none =>
      go_wp2_with fail
      refine (alike_any _ _ l l w8 HXB.out (HV.out.on HB8.out)).mono ?_
      rintro e w9 ⟨rfl, rfl⟩
      rw [show (l == l) = true by simp]
      go_wp2_with fail
      refine (left_any _ r vr l _ w8 HR8.out).mono ?_
      rintro e w9 ⟨rfl, hb⟩
      have HR9 := Lib.hid (HR8.out.on hb)
      have HB9 := Lib.hid (HB8.out.trans (hb.mono HB8.out.size))
      clear hb
      rw [Nat.sub_self]
      go_wp2_with fail
      refine (place_any _ r vr l _ w9 HR9.out).mono ?_
      rintro e w10 ⟨rfl, rfl⟩
      go_wp2_with fail
      refine (done_ok _ r vr l _ w9 HR9.out rfl).mono ?_
      rintro e w10 ⟨rfl, hb⟩
      have HB10 := Lib.hid (HB9.out.trans (hb.mono HB9.out.size))
      clear hb
      go_wp2
      go_ret
      exact ⟨rfl, HB10.out⟩
    | some ad =>
      go_wp2_with fail
      refine (alike_any _ _ l l w8 HXB.out (HV.out.on HB8.out)).mono ?_
      rintro e w9 ⟨rfl, rfl⟩
      rw [show (l == l) = true by simp]
      go_wp2_with fail
      refine (left_any _ r vr l _ w8 HR8.out).mono ?_
      rintro e w9 ⟨rfl, hb⟩
      have HR9 := Lib.hid (HR8.out.on hb)
      have HB9 := Lib.hid (HB8.out.trans (hb.mono HB8.out.size))
      clear hb
      rw [Nat.sub_self]
      go_wp2_with fail
      refine (place_any _ r vr l _ w9 HR9.out).mono ?_
      rintro e w10 ⟨rfl, rfl⟩
      go_wp2_with fail
      refine (done_ok _ r vr l _ w9 HR9.out rfl).mono ?_
      rintro e w10 ⟨rfl, hb⟩
      have HB10 := Lib.hid (HB9.out.trans (hb.mono HB9.out.size))
      clear hb
      go_wp2
      go_ret
      exact ⟨rfl, HB10.out⟩
  | some ay =>
    go_wp2_with (at_builtin; refine want_append w7 (by rfl) _ _ rfl w2.heap.size _ n (bcells (l.take n)) rfl HX7.out ay (l.length - n) cy (bcells (l.drop n)) rfl ?qc1 ?qc2 (bcells_one _) ?qc4 ?qc5 ?qc6 ?_)
    case qc1 => rw [bcells_length]; simp
    case qc2 =>
      have hy := HY7.out
      rw [show l.length - n = (l.drop n).length by simp] at hy
      exact bytesAt_news (bytesAt_own hy)
    case qc4 => unfold maxLen; omega
    case qc5 => omega
    case qc6 => exact hw27.out
    intro v' w8 hown hgrow
    rw [← bcells_append, List.take_append_drop] at hown
    obtain ⟨av, cv, rfl⟩ := row_form hown
    have HXB := Lib.hid (bytesAt_own hown)
    have HB8 := Lib.hid (HB7.out.grown hgrow HB7.out.size (fun k hk => Nat.le_trans HB2.out.size (HX7.out.lt k hk).1))
    have HR8 := Lib.hid (HR7.out.off (Off.of_grown hgrow) (fun e => row_no HX7.out HR7.out.obj (by decide) e) (fun k hk e => by
      have h1 := hvr.out k hk
      have h2 := (HX7.out.lt k e).1
      omega))
    clear hown hgrow
    go_wp2_with fail
    refine (alike_any _ _ l l w8 HXB.out (HV.out.on HB8.out)).mono ?_
    rintro e w9 ⟨rfl, rfl⟩
    rw [show (l == l) = true by simp]
    go_wp2_with fail
    refine (left_any _ r vr l _ w8 HR8.out).mono ?_
    rintro e w9 ⟨rfl, hb⟩
    have HR9 := Lib.hid (HR8.out.on hb)
    have HB9 := Lib.hid (HB8.out.trans (hb.mono HB8.out.size))
    clear hb
    rw [Nat.sub_self]
    go_wp2_with fail
    refine (place_any _ r vr l _ w9 HR9.out).mono ?_
    rintro e w10 ⟨rfl, rfl⟩
    go_wp2_with fail
    refine (done_ok _ r vr l _ w9 HR9.out rfl).mono ?_
    rintro e w10 ⟨rfl, hb⟩
    have HB10 := Lib.hid (HB9.out.trans (hb.mono HB9.out.size))
    clear hb
    go_wp2
    go_ret
    exact ⟨rfl, HB10.out⟩

theorem cuts_any (v : Value) (l : List UInt8) (n : Int) (w : World) (hv : BytesAt w v l) (hg : ErrT w) (hl : l.length ≤ 140737488355328) :
    Calls Tryd.prog 10 #[v, .int .i64 n] w fun e w' => e = .returned (.bool true) ∧ Below w.heap.size w w' := by
  by_cases h : 20000 < l.length ∨ n < 0 ∨ (l.length : Int) < n
  · exact cuts_out v l n w hv hg hl h
  · obtain ⟨m, rfl⟩ : ∃ m : Nat, n = (m : Int) := ⟨n.toNat, by omega⟩
    exact cuts_in v l m w hv hg (by omega) (by omega)
end Go.Proofs.YtpdngcjgfngnjaaDoor
