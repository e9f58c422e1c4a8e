/- yardlaw2.back: fields are read back out of their own bytes, and out of no shorter ones; yardlaw2.WireBack answers true for every list of fields and every number; memory that was there stands. -/
import Derived.Test.YtpdngcjgfngnjaaDoorOps
namespace Go.Proofs.YtpdngcjgfngnjaaDoor
open Go.RowKit Go.Extern.Stop Go.Stop Go.Extern

/-- The four cells of a field. -/
def OpCell (w : World) (b off i : Nat) (o : OpV) : Prop := w.cell? ⟨b, off + i * 4, none⟩ = some (.int .i64 o.kind) ∧ w.cell? ⟨b, off + i * 4 + 1, none⟩ = some (.int .i64 o.n) ∧
    w.cell? ⟨b, off + i * 4 + 2, none⟩ = some (.int .i64 o.x) ∧ w.cell? ⟨b, off + i * 4 + 3, none⟩ = some o.bv
theorem OpCell.on {w w' : World} {b off i : Nat} {o : OpV} (h : OpCell w b off i o) (hb : Below w.heap.size w w') : OpCell w' b off i o := by
  obtain ⟨h0, h1, h2, h3⟩ := h
  have hlt := lt_cell h0
  exact ⟨(hb.cell (p := ⟨b, off + i * 4, none⟩) hlt).trans h0, (hb.cell (p := ⟨b, off + i * 4 + 1, none⟩) hlt).trans h1, (hb.cell (p := ⟨b, off + i * 4 + 2, none⟩) hlt).trans h2, (hb.cell (p := ⟨b, off + i * 4 + 3, none⟩) hlt).trans h3⟩
theorem OpsAt.at {w : World} {ao : Option Addr} {n cap : Nat} {l : List OpV} (h : OpsAt w (.slice ao n cap) l) (i : Nat) (hi : i < l.length) : ∃ b off, ao = some ⟨b, off, none⟩ ∧ OpCell w b off i l[i] ∧ BytesAt w l[i].bv l[i].b := by
  obtain ⟨ao', cap', e, hB, hc⟩ := h
  simp only [Value.slice.injEq] at e
  obtain ⟨rfl, _, _⟩ := e
  obtain ⟨b, off, ha, h0, h1, h2, h3⟩ := hc i hi
  exact ⟨b, off, ha, ⟨h0, h1, h2, h3⟩, hB _ (List.getElem_mem _)⟩
theorem back_b (n : Nat) (x : Int) (h : UFits n x) : ((leNum (leBytes n x).reverse.reverse : Nat) : Int) = x := by rw [List.reverse_reverse]; exact back_u n x h

theorem cut_enc {m k A E C : List UInt8} (h : m ++ k = A ++ (E ++ C)) (hl : A.length + E.length ≤ m.length) : (m.drop A.length).take E.length = E := by
  have h1 : ((m ++ k).drop A.length).take E.length = E := by rw [h, List.drop_left, List.take_left]
  rw [List.drop_append_of_le_length (by omega), List.take_append_of_le_length (by simp; omega)] at h1
  exact h1
theorem enc_split (L : List OpV) (i : Nat) (hi : i < L.length) : encAll L = encAll (L.take i) ++ (opEnc L[i] ++ encAll (L.drop (i + 1))) := by
  rw [← encAll_one, ← encAll_append, ← encAll_append]
  congr 1
  simp
theorem enc_take (L : List OpV) (i : Nat) (hi : i < L.length) : (encAll (L.take (i + 1))).length = (encAll (L.take i)).length + (opEnc L[i]).length := by
  rw [List.take_succ_eq_append_getElem hi, encAll_append, encAll_one, List.length_append]
theorem enc0 (o : OpV) (h : o.kind = 0) : opEnc o = leBytes o.n.toNat o.x := by unfold opEnc; rw [if_pos h]
theorem enc1 (o : OpV) (h : o.kind = 1) : opEnc o = leBytes o.n.toNat o.x := by unfold opEnc; rw [if_neg (by omega), if_pos h]
theorem enc2 (o : OpV) (h : o.kind = 2) : opEnc o = (leBytes o.n.toNat o.x).reverse := by unfold opEnc; rw [if_neg (by omega), if_neg (by omega), if_pos h]
theorem enc3 (o : OpV) (h0 : o.kind ≠ 0) (h1 : o.kind ≠ 1) (h2 : o.kind ≠ 2) : opEnc o = o.b := by unfold opEnc; rw [if_neg h0, if_neg h1, if_neg h2]
theorem isEmpty_false {k : List UInt8} (h : 0 < k.length) : k.isEmpty = false := by cases k <;> simp_all

/-- Where the Reader stands while fields are read back. -/
def BackInv (w : World) (r : Nat) (vr : Value) (m : List UInt8) (L : List OpV) (i : Nat) (wr : World) : Prop :=
  RdAt wr w.heap.size r vr m (encAll (L.take i)).length ∧ Below w.heap.size w wr

set_option maxRecDepth 100000 in
set_option maxHeartbeats 4000000 in
theorem back_any (bv0 lv : Value) (m k : List UInt8) (L : List OpV) (w : World) (hb : BytesAt w bv0 m) (hm : m ++ k = encAll L) (hlen : m.length ≤ 140737488355000) (hL : OpsAt w lv L) (hLn : L.length ≤ 1000) (hfit : ∀ o ∈ L, opFits o) :
    Calls Tryd.prog 35 #[bv0, lv] w fun e w' => e = .returned (.bool k.isEmpty) ∧ Below w.heap.size w w' := by
  have HB := Lib.hid hb
  have HM := Lib.hid hm
  have HL := Lib.hid hL
  have HF := Lib.hid hfit
  have HN := Lib.hid hlen
  obtain ⟨ab, cb, rfl, _⟩ := hb
  obtain ⟨al, cl, rfl, _⟩ := hL
  clear hm hfit
  go_enter Tryd.func35, Tryd.ntmps35
  go_wp2_with fail
  refine (new_reader _ m w HB.out (by have := HN.out; omega)).mono ?_
  rintro e w1 ⟨r, vr, rfl, hr, hbl⟩
  have HR1 := Lib.hid hr
  have HB1 := Lib.hid hbl
  have hrb : w.heap.size ≤ r := hr.base
  clear hr hbl
  go_wp2
  go_loopg [6] L.length (fun q s6 wr => ∃ i : Nat, i ≤ L.length ∧ q = L.length - i ∧ s6 = .int .i64 i ∧ Hid (BackInv w r vr m L i wr))
  case atStart => exact ⟨0, Nat.zero_le _, rfl, rfl, Lib.hid ⟨HR1.out, HB1.out⟩⟩
  case round =>
    obtain ⟨i, hi, rfl, rfl, hinv⟩ := hrel
    obtain ⟨hrd, hbr⟩ := hinv.out
    obtain ⟨wo, hwo⟩ : ∃ x, x = wr := ⟨_, rfl⟩
    subst hwo
    have HRd := Lib.hid hrd
    have HBr := Lib.hid hbr
    by_cases hlt : i < L.length
    · obtain ⟨bb, off, hao, hcell, hby⟩ := HL.out.at i hlt
      cases hao
      have hfo := HF.out L[i] (List.getElem_mem _)
      have hsp := enc_split L i hlt
      have htk := enc_take L i hlt
      generalize hO : L[i] = o at hcell hby hfo hsp htk
      obtain ⟨kind, n, x, bv, bs⟩ := o
      have HBy := Lib.hid hby
      obtain ⟨ax, cx, hbv, _⟩ := id hby
      simp only at hbv
      subst hbv
      have HC := Lib.hid hcell
      obtain ⟨c0, c1, c2, c3⟩ := hcell.on hbr
      simp only at c0 c1 c2 c3
      have hmm := HM.out
      rw [hsp] at hmm
      have HMM := Lib.hid hmm
      have HTK := Lib.hid htk
      clear hinv hrd hbr hby hsp hO hmm htk hcell
      rcases hfo with ⟨hk, hf⟩ | ⟨hk, hf⟩ | ⟨hk, hf⟩ | ⟨h0, h1, h2⟩
      · simp only at hk
        subst hk
        obtain ⟨mm, hmn⟩ : ∃ mm : Nat, n = (mm : Int) := ⟨n.toNat, by have := hf.1; simp only at this; omega⟩
        subst hmn
        have hm1 : 1 ≤ mm := by have := hf.1; simp only at this; omega
        have hm2 : mm ≤ 6 := by have := hf.1; simp only at this; omega
        have he : opEnc ⟨0, mm, x, .slice ax bs.length cx, bs⟩ = leBytes mm x := enc0 _ rfl
        have hel : (leBytes mm x).length = mm := by exact leBytes_length mm x
        have HMM' := HMM.out
        have HTK' := HTK.out
        rw [he] at HMM' HTK'
        rw [hel] at HTK'
        have HE := Lib.hid (And.intro HMM' HTK')
        have HFF := Lib.hid hf
        have HH := Lib.hid (And.intro hm1 hm2)
        clear he HMM' HTK' hf
        by_cases hs : (encAll (L.take i)).length + mm ≤ m.length
        · have hcut : (m.drop (encAll (L.take i)).length).take mm = leBytes mm x := by
            have := cut_enc HE.out.1 (by rw [hel]; exact hs)
            rw [hel] at this
            exact this
          have HCUT := Lib.hid hcut
          clear hcut hm1 hm2 hel
          go_wp2_with fail
          refine (u_ok _ r vr m _ mm wo HRd.out HH.out.1 HH.out.2 hs).mono ?_
          rintro e w2 ⟨rfl, hr2, ho2⟩
          have HI2 : Hid (BackInv w r vr m L (i + 1) w2) := Lib.hid ⟨by rw [HE.out.2]; exact hr2, HBr.out.trans (ho2.below HBr.out.size (fun j e => by subst e; exact hrb))⟩
          rw [show ((leNum (List.take mm (List.drop (encAll (List.take i L)).length m)) : Nat) : Int) = x by rw [HCUT.out]; exact back_u mm x HFF.out]
          obtain ⟨_, _, d2, _⟩ := HC.out.on HI2.out.2
          simp only at d2
          clear hr2 ho2 hs c0 c1 c2 c3
          go_wp2
          go_roundg (L.length - (i + 1))
          case measure => omega
          case rel => exact ⟨i + 1, by omega, rfl, by go_num, HI2⟩
        · have hk0 : Hid (k.isEmpty = false) := Lib.hid (isEmpty_false (by
            have h1 := congrArg List.length HE.out.1
            simp only [List.length_append] at h1
            omega))
          have hpl := HRd.out.le
          have hbad : NumBad (m.length - (encAll (L.take i)).length) (mm : Int) 2 := .inr ⟨⟨by omega, by omega⟩, by omega, rfl⟩
          have HBAD := Lib.hid hbad
          clear hbad hel hpl hm1 hm2
          go_wp2_with fail
          refine (u_bad _ r vr m _ mm 2 wo HRd.out HBAD.out).mono ?_
          rintro e w2 ⟨y, rfl, hy, hb2⟩
          obtain ⟨_, _, rfl, _⟩ := id hy
          have HB2 := Lib.hid (HBr.out.trans (hb2.mono HBr.out.size))
          clear hy hb2 hs
          go_wp2
          go_ret
          exact ⟨ret_bool hk0.out.symm, HB2.out⟩
      · simp only at hk
        subst hk
        obtain ⟨mm, hmn⟩ : ∃ mm : Nat, n = (mm : Int) := ⟨n.toNat, by have := hf.1; simp only at this; omega⟩
        subst hmn
        have hm1 : 1 ≤ mm := by have := hf.1; simp only at this; omega
        have hm2 : mm ≤ 6 := by have := hf.1; simp only at this; omega
        have he : opEnc ⟨1, mm, x, .slice ax bs.length cx, bs⟩ = leBytes mm x := enc1 _ rfl
        have hel : (leBytes mm x).length = mm := by exact leBytes_length mm x
        have HMM' := HMM.out
        have HTK' := HTK.out
        rw [he] at HMM' HTK'
        rw [hel] at HTK'
        have HE := Lib.hid (And.intro HMM' HTK')
        have HFF := Lib.hid hf
        have HH := Lib.hid (And.intro hm1 hm2)
        clear he HMM' HTK' hf
        by_cases hs : (encAll (L.take i)).length + mm ≤ m.length
        · have hcut : (m.drop (encAll (L.take i)).length).take mm = leBytes mm x := by
            have := cut_enc HE.out.1 (by rw [hel]; exact hs)
            rw [hel] at this
            exact this
          have HCUT := Lib.hid hcut
          clear hcut hm1 hm2 hel
          go_wp2_with fail
          refine (i_ok _ r vr m _ mm wo HRd.out HH.out.1 HH.out.2 hs).mono ?_
          rintro e w2 ⟨rfl, hr2, ho2⟩
          have HI2 : Hid (BackInv w r vr m L (i + 1) w2) := Lib.hid ⟨by rw [HE.out.2]; exact hr2, HBr.out.trans (ho2.below HBr.out.size (fun j e => by subst e; exact hrb))⟩
          rw [show sgnNum mm (leNum (List.take mm (List.drop (encAll (List.take i L)).length m))) = x by rw [HCUT.out]; exact back_s mm x HFF.out]
          obtain ⟨_, _, d2, _⟩ := HC.out.on HI2.out.2
          simp only at d2
          clear hr2 ho2 hs c0 c1 c2 c3
          go_wp2
          go_roundg (L.length - (i + 1))
          case measure => omega
          case rel => exact ⟨i + 1, by omega, rfl, by go_num, HI2⟩
        · have hk0 : Hid (k.isEmpty = false) := Lib.hid (isEmpty_false (by
            have h1 := congrArg List.length HE.out.1
            simp only [List.length_append] at h1
            omega))
          have hpl := HRd.out.le
          have hbad : NumBad (m.length - (encAll (L.take i)).length) (mm : Int) 2 := .inr ⟨⟨by omega, by omega⟩, by omega, rfl⟩
          have HBAD := Lib.hid hbad
          clear hbad hel hpl hm1 hm2
          go_wp2_with fail
          refine (i_bad _ r vr m _ mm 2 wo HRd.out HBAD.out).mono ?_
          rintro e w2 ⟨y, rfl, hy, hb2⟩
          obtain ⟨_, _, rfl, _⟩ := id hy
          have HB2 := Lib.hid (HBr.out.trans (hb2.mono HBr.out.size))
          clear hy hb2 hs
          go_wp2
          go_ret
          exact ⟨ret_bool hk0.out.symm, HB2.out⟩
      · simp only at hk
        subst hk
        obtain ⟨mm, hmn⟩ : ∃ mm : Nat, n = (mm : Int) := ⟨n.toNat, by have := hf.1; simp only at this; omega⟩
        subst hmn
        have hm1 : 1 ≤ mm := by have := hf.1; simp only at this; omega
        have hm2 : mm ≤ 6 := by have := hf.1; simp only at this; omega
        have he : opEnc ⟨2, mm, x, .slice ax bs.length cx, bs⟩ = (leBytes mm x).reverse := enc2 _ rfl
        have hel : ((leBytes mm x).reverse).length = mm := by rw [List.length_reverse]; exact leBytes_length mm x
        have HMM' := HMM.out
        have HTK' := HTK.out
        rw [he] at HMM' HTK'
        rw [hel] at HTK'
        have HE := Lib.hid (And.intro HMM' HTK')
        have HFF := Lib.hid hf
        have HH := Lib.hid (And.intro hm1 hm2)
        clear he HMM' HTK' hf
        by_cases hs : (encAll (L.take i)).length + mm ≤ m.length
        · have hcut : (m.drop (encAll (L.take i)).length).take mm = (leBytes mm x).reverse := by
            have := cut_enc HE.out.1 (by rw [hel]; exact hs)
            rw [hel] at this
            exact this
          have HCUT := Lib.hid hcut
          clear hcut hm1 hm2 hel
          go_wp2_with fail
          refine (b_ok _ r vr m _ mm wo HRd.out HH.out.1 HH.out.2 hs).mono ?_
          rintro e w2 ⟨rfl, hr2, ho2⟩
          have HI2 : Hid (BackInv w r vr m L (i + 1) w2) := Lib.hid ⟨by rw [HE.out.2]; exact hr2, HBr.out.trans (ho2.below HBr.out.size (fun j e => by subst e; exact hrb))⟩
          rw [show ((leNum (List.take mm (List.drop (encAll (List.take i L)).length m)).reverse : Nat) : Int) = x by rw [HCUT.out]; exact back_b mm x HFF.out]
          obtain ⟨_, _, d2, _⟩ := HC.out.on HI2.out.2
          simp only at d2
          clear hr2 ho2 hs c0 c1 c2 c3
          go_wp2
          go_roundg (L.length - (i + 1))
          case measure => omega
          case rel => exact ⟨i + 1, by omega, rfl, by go_num, HI2⟩
        · have hk0 : Hid (k.isEmpty = false) := Lib.hid (isEmpty_false (by
            have h1 := congrArg List.length HE.out.1
            simp only [List.length_append] at h1
            omega))
          have hpl := HRd.out.le
          have hbad : NumBad (m.length - (encAll (L.take i)).length) (mm : Int) 2 := .inr ⟨⟨by omega, by omega⟩, by omega, rfl⟩
          have HBAD := Lib.hid hbad
          clear hbad hel hpl hm1 hm2
          go_wp2_with fail
          refine (b_bad _ r vr m _ mm 2 wo HRd.out HBAD.out).mono ?_
          rintro e w2 ⟨y, rfl, hy, hb2⟩
          obtain ⟨_, _, rfl, _⟩ := id hy
          have HB2 := Lib.hid (HBr.out.trans (hb2.mono HBr.out.size))
          clear hy hb2 hs
          go_wp2
          go_ret
          exact ⟨ret_bool hk0.out.symm, HB2.out⟩
      · simp only at h0 h1 h2
        have he : opEnc ⟨kind, n, x, .slice ax bs.length cx, bs⟩ = bs := enc3 _ h0 h1 h2
        have HMM' := HMM.out
        have HTK' := HTK.out
        rw [he] at HMM' HTK'
        have HE := Lib.hid (And.intro HMM' HTK')
        have q0 : (kind == 0) = false := by simpa using h0
        have q1 : (kind == 1) = false := by simpa using h1
        have q2 : (kind == 2) = false := by simpa using h2
        clear he HMM' HTK' h0 h1 h2
        by_cases hs : (encAll (L.take i)).length + bs.length ≤ m.length
        · have HCUT := Lib.hid (cut_enc HE.out.1 hs)
          go_wp2_with fail
          refine (bytes_ok _ r vr m _ bs.length wo HRd.out hs).mono ?_
          rintro e w2 ⟨⟨z, rfl, hz⟩, hr2, ho2⟩
          obtain ⟨az, cz, rfl⟩ := row_form hz
          rw [HCUT.out] at hz
          have HZ := Lib.hid (bytesAt_own hz)
          have HI2 : Hid (BackInv w r vr m L (i + 1) w2) := Lib.hid ⟨by rw [HE.out.2]; exact hr2, HBr.out.trans (ho2.below HBr.out.size (fun j e => by subst e; exact hrb))⟩
          obtain ⟨_, _, d2, d3⟩ := HC.out.on HI2.out.2
          simp only at d2 d3
          clear hr2 ho2 hs hz c0 c1 c2 c3
          go_wp2_with fail
          refine (alike_any _ _ bs bs w2 HZ.out (HBy.out.on HI2.out.2)).mono ?_
          rintro e w3 ⟨rfl, rfl⟩
          rw [show (bs == bs) = true by simp]
          go_wp2
          go_roundg (L.length - (i + 1))
          case measure => omega
          case rel => exact ⟨i + 1, by omega, rfl, by go_num, HI2⟩
        · have hk0 : Hid (k.isEmpty = false) := Lib.hid (isEmpty_false (by
            have h1 := congrArg List.length HE.out.1
            simp only [List.length_append] at h1
            omega))
          have hpl := HRd.out.le
          have hbad : BytesBad (m.length - (encAll (L.take i)).length) (bs.length : Int) 2 := .inr ⟨by omega, by omega, rfl⟩
          have HBAD := Lib.hid hbad
          clear hbad hpl
          go_wp2_with fail
          refine (bytes_bad _ r vr m _ bs.length 2 wo HRd.out HBAD.out).mono ?_
          rintro e w2 ⟨y, rfl, hy, hb2⟩
          obtain ⟨_, _, rfl, _⟩ := id hy
          have HB2 := Lib.hid (HBr.out.trans (hb2.mono HBr.out.size))
          clear hy hb2 hs
          go_wp2
          go_ret
          exact ⟨ret_bool hk0.out.symm, HB2.out⟩
    · have hil : i = L.length := by omega
      have hpl := hrd.le
      have hml := congrArg List.length HM.out
      rw [List.length_append] at hml
      rw [hil, List.take_length] at hpl
      have hk0 : Hid (k.isEmpty = true) := Lib.hid (by
        have : k.length = 0 := by omega
        simpa using this)
      have hpe : Hid ((encAll (L.take i)).length = m.length) := Lib.hid (by rw [hil, List.take_length]; omega)
      clear hil hpl hml hinv hrd hbr
      go_wp2_with fail
      refine (done_ok _ r vr m _ wo HRd.out hpe.out).mono ?_
      rintro e w2 ⟨rfl, hb2⟩
      have HB2 := Lib.hid (HBr.out.trans (hb2.mono HBr.out.size))
      clear hb2
      go_wp2
      go_ret
      exact ⟨ret_bool hk0.out.symm, HB2.out⟩
end Go.Proofs.YtpdngcjgfngnjaaDoor
