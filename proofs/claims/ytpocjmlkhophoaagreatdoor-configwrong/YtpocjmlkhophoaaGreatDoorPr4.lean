/- What Check lets through fits its bytes; config.Print: the error of Check, or the image. -/
import Derived.Test.YtpocjmlkhophoaaGreatDoorPr3
import Derived.Test.YtpocjmlkhophoaaGreatDoorCRun
import Derived.Lib.SlBytesConst
import Derived.Lib.SmallJoins
namespace Go.Proofs.YtpocjmlkhophoaaGreatDoor
open Go.RowKit Go.Extern.Stop Go.Stop Go.Extern

theorem ror_zero {a b : Res} (h : (Res.or a b).2 = 0) : a.2 = 0 ∧ b.2 = 0 := by
  unfold Res.or at h
  split at h
  · rename_i h0; exact ⟨h0, h⟩
  · rename_i h0; exact absurd h h0
structure Valid (c : Cfg) : Prop where
  fields : ∀ j < 10, fieldsN c j = true
  slaves : (slavesR c).2 = 0
  polls : (pollsR c).2 = 0
  points : (pointsR c).2 = 0
  ctls : (ctlsR c).2 = 0
theorem valid_of {c : Cfg} (h : (checkR c).2 = 0) : Valid c := by
  obtain ⟨h1, h⟩ := ror_zero h
  obtain ⟨h2, h⟩ := ror_zero h
  obtain ⟨h3, h⟩ := ror_zero h
  obtain ⟨h4, h5⟩ := ror_zero h
  refine ⟨fun j hj => ?_, h2, h3, h4, h5⟩
  have : firstFrom (fieldsN c) 0 10 = none := by
    unfold fieldsR at h1
    split at h1
    · assumption
    · cases h1
  exact first_all this j (Nat.zero_le _) (by omega)
theorem Valid.fits {c : Cfg} (h : Valid c) : FieldFits c := by
  have f0 := within_true (show within c.own 0 65519 = true from h.fields 0 (by omega))
  have f1 : within c.master 0 65519 = true ∧ (c.master != c.own) = true := by
    have : (within c.master 0 65519 && c.master != c.own) = true := h.fields 1 (by omega)
    simpa using this
  have f1 := within_true f1.1
  have f2 := within_true (show within c.reply 1 10000 = true from h.fields 2 (by omega))
  have f3 := within_true (show within c.silence 1 (min 100 c.reply) = true from h.fields 3 (by omega))
  have f4 := within_true (show within c.retries 0 5 = true from h.fields 4 (by omega))
  have f5 := within_true (show within c.offline 1 10 = true from h.fields 5 (by omega))
  have f6 := within_true (show within c.select 1 10000 = true from h.fields 6 (by omega))
  have f7 := within_true (show within c.confirm 1 10000 = true from h.fields 7 (by omega))
  have f8 := within_true (show within c.frag 249 2048 = true from h.fields 8 (by omega))
  have f9 : within c.r0 1 60 = true ∧ within c.r1 1 60 = true ∧ within c.r2 1 60 = true := by
    have : roomN c.r0 c.r1 c.r2 = true := h.fields 9 (by omega)
    simpa [roomN] using this
  have g0 := within_true f9.1
  have g1 := within_true f9.2.1
  have g2 := within_true f9.2.2
  have hfl : 0 ≤ flagN c ∧ flagN c ≤ 1 := by unfold flagN; split <;> omega
  exact ⟨u2 (by omega) (by omega), u2 (by omega) (by omega), u1 (by omega) (by omega), u2 (by omega) (by omega), u1 (by omega) (by omega), u1 (by omega) (by omega), u1 (by omega) (by omega), u2 (by omega) (by omega), u2 (by omega) (by omega), u2 (by omega) (by omega), u1 (by omega) (by omega), u1 (by omega) (by omega), u1 (by omega) (by omega)⟩
theorem Valid.slaveLen {c : Cfg} (h : Valid c) : 1 ≤ c.slaves.length ∧ c.slaves.length ≤ 8 ∧ ∀ y ∈ c.slaves, 1 ≤ y ∧ y ≤ 247 := by
  have hs := h.slaves
  unfold slavesR at hs
  split at hs
  · cases hs
  · rename_i h0
    obtain ⟨h1, h2⟩ := listR_ok hs
    refine ⟨by omega, by omega, fun y hy => ?_⟩
    obtain ⟨j, hj, rfl⟩ := List.mem_iff_getElem.1 hy
    have := h2 j hj
    simp only [slaveN, Bool.and_eq_true] at this
    have := within_true this.1
    simpa [hj] using this
theorem Valid.pollAll {c : Cfg} (h : Valid c) : c.polls.length ≤ 16 ∧ ∀ p ∈ c.polls, pollN p c.slaves.length = true := by
  obtain ⟨h1, h2⟩ := listR_ok h.polls
  refine ⟨by omega, fun y hy => ?_⟩
  obtain ⟨j, hj, rfl⟩ := List.mem_iff_getElem.1 hy
  simpa [hj] using h2 j hj
theorem Valid.pointAll {c : Cfg} (h : Valid c) : c.points.length ≤ 64 ∧ ∀ p ∈ c.points, pointN p c.polls = true := by
  obtain ⟨h1, h2⟩ := listR_ok h.points
  refine ⟨by omega, fun y hy => ?_⟩
  obtain ⟨j, hj, rfl⟩ := List.mem_iff_getElem.1 hy
  simpa [hj] using h2 j hj
theorem Valid.ctlAll {c : Cfg} (h : Valid c) : c.ctls.length ≤ 32 ∧ ∀ p ∈ c.ctls, ctlN p c.slaves.length = true := by
  obtain ⟨h1, h2⟩ := listR_ok h.ctls
  refine ⟨by omega, fun y hy => ?_⟩
  obtain ⟨j, hj, rfl⟩ := List.mem_iff_getElem.1 hy
  simpa [hj] using h2 j hj
theorem pollN_fits {p : Poll} {n : Nat} (h : pollN p n = true) (hn : n ≤ 8) : PollFits p := by
  simp only [pollN, Bool.and_eq_true] at h
  obtain ⟨h1, h2, h3, h4, h5⟩ := h
  have := within_true h1
  have := within_true h2
  have := within_true h3
  have := within_true h4
  have := within_true h5
  exact ⟨u1 (by omega) (by omega), u1 (by omega) (by omega), u2 (by omega) (by omega), u1 (by omega) (by omega), u2 (by omega) (by omega)⟩
theorem kindN_kind {p : Pt} {q : Poll} (h : kindN p q = true) : 1 ≤ p.kind ∧ p.kind ≤ 4 := by
  unfold kindN at h
  split at h
  · omega
  · split at h
    · omega
    · split at h
      · omega
      · split at h
        · omega
        · cases h
theorem pointN_fits {p : Pt} {qs : List Poll} (h : pointN p qs = true) (hn : qs.length ≤ 16) (hq : ∀ q ∈ qs, q.count ≤ 100) : PtFits p := by
  simp only [pointN, mayN, Bool.and_eq_true] at h
  obtain ⟨h1, h2, h3, ⟨m1, m2, m3, m4⟩, h5⟩ := h
  have a1 := within_true h1
  have a2 := within_true h2
  have a3 := within_true h3
  have b1 := within_true m1
  have b2 := within_true m2
  have b3 := within_true m3
  have b4 := within_true m4
  have k := kindN_kind h5
  have hc : (pollAt qs p.poll).count ≤ 100 := by
    unfold pollAt
    rw [List.getD_eq_getElem?_getD]
    cases hg : qs[p.poll.toNat]? with
    | none => simp [noPoll]
    | some q => exact hq q (List.mem_of_getElem? hg)
  exact ⟨u1 (by omega) (by omega), u1 (by omega) (by omega), u1 (by omega) (by omega), u1 (by omega) (by omega), u4 (by omega) (by omega), s2 (by omega) (by omega), u2 (by omega) (by omega), s4 (by omega) (by omega)⟩
theorem ctlN_fits {p : Ctl} {n : Nat} (h : ctlN p n = true) (hn : n ≤ 8) : CtlFits p := by
  simp only [ctlN, Bool.and_eq_true, Bool.or_eq_true, beq_iff_eq] at h
  obtain ⟨h1, h2, h3⟩ := h
  have := within_true h2
  have := within_true h3
  exact ⟨u1 (by omega) (by omega), u1 (by omega) (by omega), u2 (by omega) (by omega)⟩
/-- The image ahead of its checksum, and the image. -/
def bodyB (c : Cfg) : List UInt8 := [83, 89, 1] ++ fieldB c ++ listB (leBytes 1) c.slaves ++ listB pollB c.polls ++ listB ptB c.points ++ listB ctlB c.ctls
def imageB (c : Cfg) : List UInt8 := bodyB c ++ leBytes 2 ((modN (bodyB c) : Nat) : Int)
theorem fieldB_length (c : Cfg) : (fieldB c).length = 19 := by simp [fieldB, leBytes_length]
theorem listB_length {α : Type} (f : α → List UInt8) (n : Nat) (h : ∀ x, (f x).length = n) (l : List α) : (listB f l).length = 1 + l.length * n := by
  unfold listB
  rw [List.length_append, leBytes_length, flat_length f n h]
theorem bodyB_length (c : Cfg) : (bodyB c).length = 26 + c.slaves.length + 7 * c.polls.length + 16 * c.points.length + 4 * c.ctls.length := by
  unfold bodyB
  simp only [List.length_append, fieldB_length, listB_length _ 1 (leBytes_length 1), listB_length _ 7 pollB_length, listB_length _ 16 ptB_length, listB_length _ 4 ctlB_length, List.length_cons, List.length_nil]
  omega
/-- What Print answers. -/
def PrintIs (w : World) (c : Cfg) (e : Ending) (w' : World) : Prop := ∃ v, e = .returned (.tuple #[v, .nilIface]) ∧ w'.ownsRow w.heap.size 5 1 v (imageB c).length (bcells (imageB c)) ∧ Below w.heap.size w w'
def PrintNo (w : World) (r : Res) (e : Ending) (w' : World) : Prop := ∃ v, e = .returned (.tuple #[.slice none 0 0, v]) ∧ ErrIs w' r v ∧ Below w.heap.size w w'

set_option maxRecDepth 100000 in
set_option maxHeartbeats 8000000 in
theorem print_no (c : Cfg) (sl po pt ct : Value) (w : World) (hl : ListsAt w c sl po pt ct) (hf : FewC c) (hc : (checkR c).2 ≠ 0) : Calls Tryz.prog 17 #[cfgV c sl po pt ct] w (PrintNo w (checkR c)) := by
  have HB := Lib.hid (below_new w (.cells #[.int .i64 c.own, .int .i64 c.master, .bool c.unsol, .int .i64 c.reply, .int .i64 c.silence, .int .i64 c.retries, .int .i64 c.offline, .int .i64 c.select, .int .i64 c.confirm, .int .i64 c.frag, .int .i64 c.r0, .int .i64 c.r1, .int .i64 c.r2, sl, po, pt, ct] 28))
  have HX := Lib.hid (cfgBox_new w c sl po pt ct)
  have HL := Lib.hid (hl.on HB.out)
  have HF := Lib.hid hf
  obtain ⟨a1, q1, rfl, _⟩ := hl.sl.form
  obtain ⟨a2, q2, rfl, _⟩ := hl.po.form
  obtain ⟨a3, q3, rfl, _⟩ := hl.pt.form
  obtain ⟨a4, q4, rfl, _⟩ := hl.ct.form
  clear hl hf
  unfold cfgV
  go_enter Tryz.func17, Tryz.ntmps17
  go_wp2_with fail
  refine (check_any c _ _ _ _ _ HL.out HF.out).mono ?_
  rintro e w2 ⟨v, rfl, he, hb⟩
  have HX2 := Lib.hid (HX.out.on hb)
  have HL2 := Lib.hid (HL.out.on hb)
  have HB2 := Lib.hid (HB.out.trans (hb.mono HB.out.size))
  obtain ⟨t, y, rfl⟩ := errIs_iface hc he
  have HE := Lib.hid he
  clear hb he hc
  go_wp2
  go_ret2
  exact ⟨_, rfl, HE.out, HB2.out⟩

theorem St.below {W0 w : World} {b : Nat} {l : List UInt8} (h : St W0 b l w) : Below W0.heap.size W0 w := by
  obtain ⟨v, _, h2⟩ := h
  exact h2
theorem st_below {W0 w : World} {b : Nat} {l : List UInt8} (h : St W0 b l w) : Below W0.heap.size W0 w := h.below
theorem lit3 (w : World) : BytesAt (w.alloc (.cells #[.int .u8 83, .int .u8 89, .int .u8 1] 5 (3, 4))) (.slice (some ⟨w.heap.size, 0, none⟩) 3 3) [83, 89, 1] := by
  refine ⟨_, _, rfl, fun i hi => ⟨w.heap.size, 0, rfl, ?_⟩⟩
  have h3 : i = 0 ∨ i = 1 ∨ i = 2 := by simp at hi; omega
  have hb : (w.alloc (.cells #[.int .u8 83, .int .u8 89, .int .u8 1] 5 (3, 4))).heap[w.heap.size]? = some (.cells #[.int .u8 83, .int .u8 89, .int .u8 1] 5 (3, 4)) := heap_alloc_new w _
  rcases h3 with rfl | rfl | rfl <;> (simp only [World.cell?, hb]; rfl)
theorem st_new (w : World) : St w w.heap.size [] (w.alloc (.cells #[.slice none 0 0] 136)) := ⟨_, wrAt_new w, below_new _ _⟩
set_option maxRecDepth 100000 in
set_option maxHeartbeats 8000000 in
theorem print_ok (c : Cfg) (sl po pt ct : Value) (w : World) (hl : ListsAt w c sl po pt ct) (hf : FewC c) (hc : (checkR c).2 = 0) : Calls Tryz.prog 17 #[cfgV c sl po pt ct] w (PrintIs w c) := by
  have hv := valid_of hc
  have HV := Lib.hid hv
  have s1 := hv.slaveLen
  have p1 := hv.pollAll
  have t1 := hv.pointAll
  have c1 := hv.ctlAll
  have G1 := Lib.hid (fun y hy => u1 (by have := s1.2.2 y hy; omega) (by have := s1.2.2 y hy; omega) : ∀ y ∈ c.slaves, UFits ((1 : Nat) : Int) y)
  have G2 := Lib.hid (fun y hy => pollN_fits (p1.2 y hy) s1.2.1 : ∀ y ∈ c.polls, PollFits y)
  have hq : ∀ q ∈ c.polls, q.count ≤ 100 := fun q hq => by
    have := p1.2 q hq
    simp only [pollN, Bool.and_eq_true] at this
    exact (within_true this.2.2.1).2
  have G3 := Lib.hid (fun y hy => pointN_fits (t1.2 y hy) p1.1 hq : ∀ y ∈ c.points, PtFits y)
  have G4 := Lib.hid (fun y hy => ctlN_fits (c1.2 y hy) s1.2.1 : ∀ y ∈ c.ctls, CtlFits y)
  have n1 : c.slaves.length ≤ 8 := s1.2.1
  have n2 : c.polls.length ≤ 16 := p1.1
  have n3 : c.points.length ≤ 64 := t1.1
  have n4 : c.ctls.length ≤ 32 := c1.1
  clear s1 p1 t1 c1 hq hv
  have HB := Lib.hid (below_new w (.cells #[.int .i64 c.own, .int .i64 c.master, .bool c.unsol, .int .i64 c.reply, .int .i64 c.silence, .int .i64 c.retries, .int .i64 c.offline, .int .i64 c.select, .int .i64 c.confirm, .int .i64 c.frag, .int .i64 c.r0, .int .i64 c.r1, .int .i64 c.r2, sl, po, pt, ct] 28))
  have HX := Lib.hid (cfgBox_new w c sl po pt ct)
  have HL := Lib.hid (hl.on HB.out)
  have HF := Lib.hid hf
  obtain ⟨a1, q1, rfl, _⟩ := hl.sl.form
  obtain ⟨a2, q2, rfl, _⟩ := hl.po.form
  obtain ⟨a3, q3, rfl, _⟩ := hl.pt.form
  obtain ⟨a4, q4, rfl, _⟩ := hl.ct.form
  clear hl hf
  unfold cfgV
  go_enter Tryz.func17, Tryz.ntmps17
  go_wp2_with fail
  refine (check_any c _ _ _ _ _ HL.out HF.out).mono ?_
  rintro e w2 ⟨v, rfl, he, hb⟩
  have HX2 := Lib.hid (HX.out.on hb)
  have HL2 := Lib.hid (HL.out.on hb)
  have HB2 := Lib.hid (HB.out.trans (hb.mono HB.out.size))
  obtain rfl : v = .nilIface := by unfold ErrIs at he; rw [if_pos hc] at he; exact he
  clear hb he hc
  obtain ⟨k0, k1, k2, k3, k4, k5, k6, k7, k8, k9, k10, k11, k12⟩ := HX2.out.fields
  obtain ⟨k13, k14, k15, k16⟩ := HX2.out.lists
  have hgl : w.heap.size < w2.heap.size := lt_heap HX2.out
  go_wp2_with fail
  refine (new_writer _).mono ?_
  rintro e w3 ⟨rfl, rfl⟩
  have S0 := Lib.hid (st_new w2)
  have hcv := Go.Joins.run_convert_bytes_const_at (P := Tryz.prog) (w2.alloc (.cells #[.slice none 0 0] 136)) 37 5 #[.int .u8 83, .int .u8 89, .int .u8 1] 3 3 (w2.heap.size + 1) (by simp) Tryz.underlying37 Tryz.underlying5
  go_wp2_with fail
  clear hcv
  obtain ⟨vv, hw, hb⟩ := S0.out.on (below_new _ (.cells #[.int .u8 83, .int .u8 89, .int .u8 1] 5 (3, 4)))
  have HW := Lib.hid (And.intro hw hb)
  clear hw hb
  refine (wbytes_any _ _ vv _ [] [83, 89, 1] _ HW.out.1 (by simpa using lit3 (w2.alloc (.cells #[.slice none 0 0] 136))) (by simp)).mono ?_
  rintro e z ⟨rfl, hp⟩
  have SZ : Hid (St w2 w2.heap.size ([] ++ [83, 89, 1]) z) := Lib.hid (put_st HW.out.1 HW.out.2 hp).1
  clear hp S0 HW
  clear k0 k1 k2 k3 k4 k5 k6 k7 k8 k9 k10 k11 k12 k13 k14 k15 k16
  obtain ⟨k0, k1, k2, k3, k4, k5, k6, k7, k8, k9, k10, k11, k12⟩ := (HX2.out.on (st_below SZ.out)).fields
  obtain ⟨k13, k14, k15, k16⟩ := (HX2.out.on (st_below SZ.out)).lists
  go_wp2_with fail
  refine (putFields_any c _ _ _ _ w2 _ w2.heap.size ([] ++ [83, 89, 1]) SZ.out (by simp) HV.out.fits).mono ?_
  rintro e z1 ⟨rfl, hs, hk⟩
  have S1 : Hid (St w2 w2.heap.size ([] ++ [83, 89, 1] ++ fieldB c) z1) := Lib.hid hs
  obtain ⟨k0, k1, k2, k3, k4, k5, k6, k7, k8, k9, k10, k11, k12⟩ := (HX2.out.on (st_below S1.out)).fields
  obtain ⟨k13, k14, k15, k16⟩ := (HX2.out.on (st_below S1.out)).lists
  clear hs hk
  go_wp2_with fail
  refine (putInts_any w2 _ w2.heap.size ([] ++ [83, 89, 1] ++ fieldB c) c.slaves _ HL2.out.sl (by omega) S1.out (by simp only [List.length_append, fieldB_length, List.length_cons, List.length_nil]; omega) G1.out).mono ?_
  rintro e z2 ⟨rfl, hs, hk⟩
  have S2 : Hid (St w2 w2.heap.size ([] ++ [83, 89, 1] ++ fieldB c ++ listB (leBytes 1) c.slaves) z2) := Lib.hid hs
  obtain ⟨k0, k1, k2, k3, k4, k5, k6, k7, k8, k9, k10, k11, k12⟩ := (HX2.out.on (st_below S2.out)).fields
  obtain ⟨k13, k14, k15, k16⟩ := (HX2.out.on (st_below S2.out)).lists
  clear hs hk
  go_wp2_with fail
  refine (putPolls_any w2 _ w2.heap.size ([] ++ [83, 89, 1] ++ fieldB c ++ listB (leBytes 1) c.slaves) c.polls _ HL2.out.po (by omega) S2.out (by simp only [List.length_append, fieldB_length, listB_length _ 1 (leBytes_length 1), List.length_cons, List.length_nil]; omega) G2.out).mono ?_
  rintro e z3 ⟨rfl, hs, hk⟩
  have S3 : Hid (St w2 w2.heap.size ([] ++ [83, 89, 1] ++ fieldB c ++ listB (leBytes 1) c.slaves ++ listB pollB c.polls) z3) := Lib.hid hs
  obtain ⟨k0, k1, k2, k3, k4, k5, k6, k7, k8, k9, k10, k11, k12⟩ := (HX2.out.on (st_below S3.out)).fields
  obtain ⟨k13, k14, k15, k16⟩ := (HX2.out.on (st_below S3.out)).lists
  clear hs hk
  go_wp2_with fail
  refine (putPts_any w2 _ w2.heap.size ([] ++ [83, 89, 1] ++ fieldB c ++ listB (leBytes 1) c.slaves ++ listB pollB c.polls) c.points _ HL2.out.pt (by omega) S3.out (by simp only [List.length_append, fieldB_length, listB_length _ 1 (leBytes_length 1), listB_length _ 7 pollB_length, List.length_cons, List.length_nil]; omega) G3.out).mono ?_
  rintro e z4 ⟨rfl, hs, hk⟩
  have S4 : Hid (St w2 w2.heap.size ([] ++ [83, 89, 1] ++ fieldB c ++ listB (leBytes 1) c.slaves ++ listB pollB c.polls ++ listB ptB c.points) z4) := Lib.hid hs
  obtain ⟨k0, k1, k2, k3, k4, k5, k6, k7, k8, k9, k10, k11, k12⟩ := (HX2.out.on (st_below S4.out)).fields
  obtain ⟨k13, k14, k15, k16⟩ := (HX2.out.on (st_below S4.out)).lists
  clear hs hk
  go_wp2_with fail
  refine (putCtls_any w2 _ w2.heap.size ([] ++ [83, 89, 1] ++ fieldB c ++ listB (leBytes 1) c.slaves ++ listB pollB c.polls ++ listB ptB c.points) c.ctls _ HL2.out.ct (by omega) S4.out (by simp only [List.length_append, fieldB_length, listB_length _ 1 (leBytes_length 1), listB_length _ 7 pollB_length, listB_length _ 16 ptB_length, List.length_cons, List.length_nil]; omega) G4.out).mono ?_
  rintro e z5 ⟨rfl, hs, hk⟩
  have S5 : Hid (St w2 w2.heap.size ([] ++ [83, 89, 1] ++ fieldB c ++ listB (leBytes 1) c.slaves ++ listB pollB c.polls ++ listB ptB c.points ++ listB ctlB c.ctls) z5) := Lib.hid hs
  obtain ⟨k0, k1, k2, k3, k4, k5, k6, k7, k8, k9, k10, k11, k12⟩ := (HX2.out.on (st_below S5.out)).fields
  obtain ⟨k13, k14, k15, k16⟩ := (HX2.out.on (st_below S5.out)).lists
  clear hs hk
  have HBD : Hid ([] ++ [83, 89, 1] ++ fieldB c ++ listB (leBytes 1) c.slaves ++ listB pollB c.polls ++ listB ptB c.points ++ listB ctlB c.ctls = bodyB c) := Lib.hid (by simp [bodyB])
  have SB : Hid (St w2 w2.heap.size (bodyB c) z5) := Lib.hid (by rw [← HBD.out]; exact S5.out)
  have HLN : Hid ((bodyB c).length ≤ 2000) := Lib.hid (by rw [bodyB_length]; omega)
  clear S1 S2 S3 S4 S5 HBD SZ k0 k1 k2 k3 k4 k5 k6 k7 k8 k9 k10 k11 k12 k13 k14 k15 k16
  obtain ⟨v5, hw5, hb5⟩ := SB.out
  have HW5 := Lib.hid (And.intro hw5 hb5)
  clear hw5 hb5
  go_wp2_with fail
  refine (out_any _ _ v5 (bodyB c) _ HW5.out.1 (by have := HLN.out; omega)).mono ?_
  rintro e z6 ⟨v6, rfl, ho, hb⟩
  have HO := Lib.hid (bytesAt_own ho)
  have S6 := Lib.hid (SB.out.on hb)
  obtain ⟨a6, c6, rfl, _⟩ := HO.out
  clear ho hb
  go_wp2_with fail
  refine (Modbus_any _ (bodyB c) _ HO.out (by have := HLN.out; unfold maxLen; omega)).mono ?_
  rintro e z7 ⟨rfl, rfl⟩
  have hmd := modN_lt (bodyB c)
  go_wp2_with fail
  refine (st_u w2 _ w2.heap.size (bodyB c) 2 ((modN (bodyB c) : Nat) : Int) S6.out (by have := HLN.out; omega) (u2 (by omega) (by omega))).mono ?_
  rintro e z8 ⟨rfl, hs, hk⟩
  have S8 : Hid (St w2 w2.heap.size (imageB c) z8) := Lib.hid hs
  clear hs hk
  obtain ⟨v8, hw8, hb8⟩ := S8.out
  have HW8 := Lib.hid (And.intro hw8 hb8)
  clear hw8 hb8
  have HLI : Hid ((imageB c).length ≤ 3000) := Lib.hid (by unfold imageB; rw [List.length_append, leBytes_length]; have := HLN.out; omega)
  go_wp2_with fail
  refine (out_any _ _ v8 (imageB c) _ HW8.out.1 (by have := HLI.out; omega)).mono ?_
  rintro e z9 ⟨v9, rfl, ho, hb⟩
  have HB9 : Hid (Below w.heap.size w z9) := Lib.hid ((HB2.out.trans (HW8.out.2.mono HB2.out.size)).trans (hb.mono (Nat.le_trans HB2.out.size HW8.out.2.size)))
  have HO9 : Hid (z9.ownsRow w.heap.size 5 1 v9 (imageB c).length (bcells (imageB c))) := Lib.hid (ownsRow_base ho (Nat.le_trans HB2.out.size HW8.out.2.size))
  obtain ⟨a9, c9, rfl⟩ := row_form ho
  clear ho hb
  go_wp2
  go_ret2
  exact ⟨_, rfl, HO9.out, HB9.out⟩

end Go.Proofs.YtpocjmlkhophoaaGreatDoor
