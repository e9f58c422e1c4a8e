/- A Wheel and the document's Wheel side by side: what the loop of WheelPlays holds. -/
import Derived.Test.YtfefkkojdcipcaaDoorAlike
import Derived.Test.YtfefkkojdcipcaaDoorRtick
namespace Go.Proofs.YtfefkkojdcipcaaDoor
open Go.RowKit Go.Extern.Stop Go.Stop Go.Extern

theorem wh_rw {w : World} {B p B2 q : Nat} {now now2 : Int} {v v2 : Value} {ts ts2 : List (Int × Int)} (h : WhAt w B p now v ts) (h2 : RwAt w B2 q now2 v2 ts2) : ∀ k, Wrote p v k → ¬ Wrote q v2 k := fun k h3 h4 => by
  have e1 : ∃ cs t, w.heap[k]? = some (.cells cs t (0, 0)) ∧ (t = 61 ∨ t = 70) := by
    rcases h3 with rfl | e
    · exact ⟨_, 61, h.obj, .inl rfl⟩
    · rcases h.own.2 with ⟨hv, _⟩ | ⟨g, cap, cur, hv, _, hh, _⟩
      · rw [hv] at e; cases e
      · rw [hv] at e
        have : g = k := by simpa [Value.ownBlock] using e
        subst this
        exact ⟨_, 70, hh, .inr rfl⟩
  have e2 : ∃ cs t, w.heap[k]? = some (.cells cs t (0, 0)) ∧ (t = 29 ∨ t = 75) := by
    rcases h4 with rfl | e
    · exact ⟨_, 29, h2.obj, .inl rfl⟩
    · obtain ⟨_, cur, hh⟩ := h2.own.block k e
      exact ⟨_, 75, hh, .inr rfl⟩
  obtain ⟨c1, t1, g1, k1⟩ := e1
  obtain ⟨c2, t2, g2, k2⟩ := e2
  rw [g1] at g2
  simp only [Option.some.injEq, Obj.cells.injEq] at g2
  have := g2.2.1
  rcases k1 with rfl | rfl <;> rcases k2 with rfl | rfl <;> exact absurd this (by decide)
theorem WhAt.lower {w : World} {B B' p : Nat} {now : Int} {v : Value} {ts : List (Int × Int)} (h : WhAt w B p now v ts) (hB : B' ≤ B) : WhAt w B' p now v ts := by
  refine ⟨Nat.le_trans hB h.base, h.obj, h.own.1, ?_⟩
  rcases h.own.2 with h1 | ⟨g, cap, cur, hv, hb, h2⟩
  · exact .inl h1
  · exact .inr ⟨g, cap, cur, hv, Nat.le_trans hB hb, h2⟩
theorem RTurned.below {w w' : World} {B p : Nat} {now now' : Int} {v : Value} {ts ts' : List (Int × Int)} (h : RwAt w B p now v ts) (ht : RTurned w B p v now' ts' w') : Below B w w' := by
  obtain ⟨v', _, ho, _⟩ := ht
  refine ho.below (Nat.le_trans h.base (Nat.le_of_lt h.lt)) fun k hk => ?_
  rcases hk with rfl | hk
  · exact h.base
  · exact (h.rlt k hk).1
/-- Both Wheels, with the same clock and timers. -/
def Both (S p q : Nat) (wa : World) (now : Int) (ts : List (Int × Int)) (wr : World) : Prop := (∃ v, WhAt wr S p now v ts) ∧ (∃ v2, RwAt wr S q now v2 ts) ∧ Below S wa wr
/-- .. at the loop. -/
def PInv (S q : Nat) (wa : World) (i : Nat) (s3 : Value) (wr : World) : Prop := ∃ p now ts, s3 = .pointer (some ⟨p, 0, none⟩) ∧ Both S p q wa now ts wr ∧ Good ts ∧ ts.length ≤ i ∧ (0 ≤ now ∧ now ≤ 1099511627776)
theorem Both.on {S p q : Nat} {wa : World} {now : Int} {ts : List (Int × Int)} {wr w' : World} (h : Both S p q wa now ts wr) (hb : Below wr.heap.size wr w') : Both S p q wa now ts w' := by
  obtain ⟨⟨v, h1⟩, ⟨v2, h2⟩, h3⟩ := h
  exact ⟨⟨v, h1.on hb⟩, ⟨v2, h2.on hb⟩, h3.trans (hb.mono (Nat.le_trans h1.base (Nat.le_of_lt h1.lt)))⟩
/-- The program's Wheel goes one call on, and then the document's. -/
theorem Both.next {S p q : Nat} {wa w w1 w2 : World} {now now' : Int} {ts ts' : List (Int × Int)} {v v1 v2 : Value} (h1 : WhAt w S p now v ts) (h2 : RwAt w S q now v2 ts) (hb : Below S wa w) (st : StepTo w S p v now' ts' w1 v1) (rt : RTurned w1 S q v2 now' ts' w2) : Both S p q wa now' ts' w2 := by
  have h2' : RwAt w1 S q now v2 ts := h2.off st.off (fun k h3 h4 => wh_rw h1 h2 k h4 h3)
  have hb2 := RTurned.below h2' rt
  obtain ⟨v', g1, g2, g3⟩ := rt
  exact ⟨⟨v1, st.wh.off g2 (fun k h3 h4 => wh_rw st.wh h2' k h3 h4)⟩, ⟨v', g1⟩, (hb.trans st.below).trans hb2⟩
theorem Both.step {S p q : Nat} {wa w w1 : World} {now now' : Int} {ts ts' : List (Int × Int)} {v v1 v2 : Value} (h1 : WhAt w S p now v ts) (h2 : RwAt w S q now v2 ts) (hb : Below S wa w) (st : StepTo w S p v now' ts' w1 v1) : RwAt w1 S q now v2 ts ∧ Below S wa w1 :=
  ⟨h2.off st.off (fun k h3 h4 => wh_rw h1 h2 k h4 h3), hb.trans st.below⟩

set_option maxRecDepth 100000 in
set_option maxHeartbeats 8000000 in
theorem plays_any (RS : ∀ (B p : Nat) (now : Int) (v : Value) (ts : List (Int × Int)) (id after : Int) (w : World), RwAt w B p now v ts → ts.length ≤ 900 → inR id after → 0 ≤ now → now ≤ 1099511627776 → Calls Tryd.prog 13 #[.pointer (some ⟨p, 0, none⟩), .int .i64 id, .int .i64 after] w fun e w' => e = .returned (.agg #[.int .i64 0, .slice none 0 0]) ∧ RTurned w B p v now (setT now ts id after) w')
    (v : Value) (l : List OpV) (w : World) (hv : OpsAt w v l) (hg : ErrT w) : Calls Tryd.prog 3 #[v] w (Fine w) := by
  have HRS := Lib.hid RS
  clear RS
  have HK : Hid (∀ W : World, Below w.heap.size w W → ErrT W) := Lib.hid fun W hb => hg.up hb
  have HV := Lib.hid hv
  have HG := Lib.hid hg
  obtain ⟨ao, cap, rfl, hx⟩ := hv
  clear hg hx
  by_cases hlen : l.length ≤ 200
  · have hlen' : (l.length : Int) ≤ 200 := by omega
    have HL := Lib.hid hlen
    clear hlen
    go_enter Tryd.func3, Tryd.ntmps3
    go_wp2_with fail
    refine (first_any _ HG.out).mono ?_
    rintro e wa ⟨rfl, hba⟩
    have BA := Lib.hid hba
    clear hba
    go_wp2_with fail
    refine (new_any _).mono ?_
    rintro e w0 ⟨rfl, hw0⟩
    have H0 : Hid (WhAt w0 wa.heap.size wa.heap.size 0 (.slice none 0 0) []) := Lib.hid (by rw [hw0]; exact whAt_new wa)
    have B0 : Hid (Below wa.heap.size wa w0) := Lib.hid (by rw [hw0]; exact below_new wa _)
    clear hw0
    have HP0 : Hid (PInv wa.heap.size w0.heap.size wa 0 (.pointer (some ⟨wa.heap.size, 0, none⟩)) (w0.alloc (.cells #[.int .i64 0, .slice none 0 0] 29))) := Lib.hid ⟨wa.heap.size, 0, [], rfl, ⟨⟨_, H0.out.on (below_new _ _)⟩, ⟨.slice none 0 0, ⟨B0.out.size, heap_alloc_new w0 _, .inl ⟨rfl, rfl⟩⟩⟩, B0.out.alloc B0.out.size _⟩, good_nil, Nat.le_refl _, by omega, by omega⟩
    go_wp2
    generalize w0.alloc (.cells #[.int .i64 0, .slice none 0 0] 29) = w00 at *
    generalize w0.heap.size = q at *
    go_loopg [3, 5] l.length (fun k s3 s5 wr => ∃ i : Nat, i ≤ l.length ∧ k = l.length - i ∧ s5 = .int .i64 i ∧ Hid (PInv wa.heap.size q wa i s3 wr))
    case atStart => exact ⟨0, Nat.zero_le _, rfl, rfl, HP0⟩
    case round =>
      obtain ⟨i, hi, rfl, rfl, hinv⟩ := hrel
      obtain ⟨p, now, ts, rfl, hboth, hgood, htl, hnow⟩ := hinv.out
      by_cases hlt : i < l.length
      · obtain ⟨⟨v1, hw⟩, ⟨v2, hr⟩, hbr⟩ := hboth
        have HW := Lib.hid hw
        have HR := Lib.hid hr
        have HBA := Lib.hid hbr
        have HGD := Lib.hid hgood
        have HNOW := Lib.hid hnow
        have HTL : Hid (ts.length ≤ i) := Lib.hid htl
        have HLT : Hid (ts.length ≤ 200) := Lib.hid (by have := HL.out; omega)
        have HBR : Hid (Below w.heap.size w wr) := Lib.hid (BA.out.trans (hbr.mono BA.out.size))
        obtain ⟨b, off, hb, hc⟩ := HV.out.each i hlt
        subst hb
        generalize l[i].kind = K at *
        generalize l[i].n = N at *
        generalize l[i].a = A at *
        have HC := Lib.hid hc
        obtain ⟨c0, c1, c2⟩ := hc wr HBR.out
        clear hc hw hr hbr hgood hnow htl hinv
        have hi0 : (0 : Int) ≤ (i : Int) := by omega
        have hil : (i : Int) < (l.length : Int) := by omega
        have HBO : Hid (Both wa.heap.size p q wa now ts wr) := Lib.hid ⟨⟨v1, HW.out⟩, ⟨v2, HR.out⟩, HBA.out⟩
        have HBD : Hid (Below wr.heap.size wr wr.drew) := Lib.hid (Below.refl _ _).drew
        by_cases hK0 : K = 0
        · subst hK0
          by_cases hin : inR N A
          · have HGZ : Hid (Good (setT now ts N A) ∧ (setT now ts N A).length ≤ i + 1 ∧ 0 ≤ now ∧ now ≤ 1099511627776) := Lib.hid ⟨good_setT HGD.out HNOW.out.1 HNOW.out.2 hin, Nat.le_trans (setT_length now ts N A) (by have := HTL.out; omega), HNOW.out⟩
            have HIN := Lib.hid hin
            clear hin
            go_wp2_with fail
            go_region_held3 (fun w' => w'.cell? ⟨b, off + i * 3 + 1, none⟩ = some (.int .i64 N) ∧ w'.cell? ⟨b, off + i * 3 + 2, none⟩ = some (.int .i64 A))
              (first
                | exact ⟨c1, c2⟩
                | exact ⟨d1, d2⟩
                | exact ⟨e1, e2⟩
                | exact ⟨f1, f2⟩
                | go_keep)
              (first
                | (go_at_call 12; refine (set_ok wa.heap.size p now v1 ts N A _ (HW.out.on HBD.out) (by have := HLT.out; omega) HIN.out.1.1 HIN.out.1.2 HIN.out.2.1 HIN.out.2.2 HNOW.out.1 HNOW.out.2 (HBA.out.size)).mono ?_; rintro e w2 ⟨rfl, ht⟩; obtain ⟨v3, st⟩ := ht.step (HW.out.on HBD.out); have ST := Lib.hid st; have HR2 := Lib.hid (Both.step (HW.out.on HBD.out) (HR.out.on HBD.out) HBA.out.drew st); obtain ⟨d0, d1, d2⟩ := HC.out w2 (BA.out.trans (HR2.out.2.mono BA.out.size)); clear ht st d0; simp only [])
                | (go_at_call 13; refine (HRS.out wa.heap.size q now v2 ts N A w2 HR2.out.1 (by have := HLT.out; omega) HIN.out HNOW.out.1 HNOW.out.2).mono ?_; rintro e w3 ⟨rfl, rt⟩; have HB3 := Lib.hid (Both.next (HW.out.on HBD.out) (HR.out.on HBD.out) HBA.out.drew ST.out rt); obtain ⟨e0, e1, e2⟩ := HC.out w3 (BA.out.trans (HB3.out.2.2.mono BA.out.size)); clear rt e0; simp only [])
                | (go_at_call 11; refine (same_none w3 (HK.out w3 (BA.out.trans (HB3.out.2.2.mono BA.out.size)))).mono ?_; rintro e w4 ⟨rfl, hb4⟩; have HB4 := Lib.hid (HB3.out.on hb4); obtain ⟨f0, f1, f2⟩ := HC.out w4 (BA.out.trans (HB4.out.2.2.mono BA.out.size)); clear hb4 f0; simp only []))
            all_goals
              clear c1 c2 d1 d2 e1 e2 f1 f2
              obtain ⟨⟨vz, hz1⟩, ⟨vz2, hz2⟩, hzb⟩ := HB4.out
              have HZ1 := Lib.hid hz1
              have HZ2 := Lib.hid hz2
              obtain ⟨z0, z1, z2⟩ := HC.out w4 (BA.out.trans (hzb.mono BA.out.size))
              clear hz1 hz2 hzb
              go_wp2_with fail
              refine (alike_any wa.heap.size p wa.heap.size q now vz vz2 (setT now ts N A) N w4 HZ1.out HZ2.out HGZ.out.1 (by have := HGZ.out.2.1; have := HL.out; omega)).mono ?_
              rintro e wy ⟨rfl, hby⟩
              have HN : Hid (PInv wa.heap.size q wa (i + 1) (.pointer (some ⟨p, 0, none⟩)) wy) := Lib.hid ⟨p, now, (setT now ts N A), rfl, HB4.out.on hby, HGZ.out.1, HGZ.out.2.1, HGZ.out.2.2⟩
              clear hby z0 z1 z2
              go_wp2
              go_roundg (l.length - (i + 1))
              case measure => omega
              case rel => exact ⟨i + 1, by omega, rfl, (by first | exact next_int i (by have := HL.out; omega) | exact congrArg _ (by omega)), HN⟩
          · have HGZ : Hid (Good ts ∧ ts.length ≤ i + 1 ∧ 0 ≤ now ∧ now ≤ 1099511627776) := Lib.hid ⟨HGD.out, by have := HTL.out; omega, HNOW.out⟩
            have HIN := Lib.hid hin
            clear hin
            go_wp2_with fail
            go_region_held3 (fun w' => w'.cell? ⟨b, off + i * 3 + 1, none⟩ = some (.int .i64 N) ∧ w'.cell? ⟨b, off + i * 3 + 2, none⟩ = some (.int .i64 A))
              (first
                | exact ⟨c1, c2⟩
                | exact ⟨d1, d2⟩
                | exact ⟨e1, e2⟩
                | exact ⟨f1, f2⟩
                | go_keep)
              (first
                | (go_at_call 12; refine (set_bad p N A _ HIN.out).mono ?_; rintro e w2 ⟨x, rfl, hx, hb2⟩; have HX := Lib.hid hx; have HB2 : Hid (Both wa.heap.size p q wa now ts w2) := Lib.hid (HBO.out.on (HBD.out.trans hb2)); obtain ⟨te, ye, rfl⟩ := Chain.iface hx; obtain ⟨d0, d1, d2⟩ := HC.out w2 (BA.out.trans (HB2.out.2.2.mono BA.out.size)); clear hx hb2 d0; simp only [])
                | (go_at_call 13; refine (rset_bad q N A w2 HIN.out).mono ?_; rintro e w3 ⟨gg, rfl, hst, hb3⟩; have HST := Lib.hid hst; have HX3 := Lib.hid (Chain.on hb3 HX.out); have HB3 := Lib.hid (HB2.out.on hb3); obtain ⟨e0, e1, e2⟩ := HC.out w3 (BA.out.trans (HB3.out.2.2.mono BA.out.size)); clear hst hb3 e0; simp only [])
                | (go_at_call 11; refine (same_some 1 (by decide) _ _ [(sWheel, N)] w3 (HK.out w3 (BA.out.trans (HB3.out.2.2.mono BA.out.size))) HX3.out HST.out (by simp)).mono ?_; rintro e w4 ⟨rfl, hb4⟩; have HB4 := Lib.hid (HB3.out.on hb4); obtain ⟨f0, f1, f2⟩ := HC.out w4 (BA.out.trans (HB4.out.2.2.mono BA.out.size)); clear hb4 f0; simp only []))
            all_goals
              clear c1 c2 d1 d2 e1 e2 f1 f2
              obtain ⟨⟨vz, hz1⟩, ⟨vz2, hz2⟩, hzb⟩ := HB4.out
              have HZ1 := Lib.hid hz1
              have HZ2 := Lib.hid hz2
              obtain ⟨z0, z1, z2⟩ := HC.out w4 (BA.out.trans (hzb.mono BA.out.size))
              clear hz1 hz2 hzb
              go_wp2_with fail
              refine (alike_any wa.heap.size p wa.heap.size q now vz vz2 ts N w4 HZ1.out HZ2.out HGZ.out.1 (by have := HGZ.out.2.1; have := HL.out; omega)).mono ?_
              rintro e wy ⟨rfl, hby⟩
              have HN : Hid (PInv wa.heap.size q wa (i + 1) (.pointer (some ⟨p, 0, none⟩)) wy) := Lib.hid ⟨p, now, ts, rfl, HB4.out.on hby, HGZ.out.1, HGZ.out.2.1, HGZ.out.2.2⟩
              clear hby z0 z1 z2
              go_wp2
              go_roundg (l.length - (i + 1))
              case measure => omega
              case rel => exact ⟨i + 1, by omega, rfl, (by first | exact next_int i (by have := HL.out; omega) | exact congrArg _ (by omega)), HN⟩
        · have hK0' : (K == 0) = false := by simpa using hK0
          by_cases hK1 : K = 1
          · subst hK1
            clear hK0 hK0'
            go_wp2_with fail
            go_region_held3 (fun w' => w'.cell? ⟨b, off + i * 3 + 1, none⟩ = some (.int .i64 N))
              (first
                | exact c1
                | exact d1
                | exact e1
                | go_keep)
              (first
                | (go_at_call 14; refine (cancel_any wa.heap.size p now v1 ts N _ (HW.out.on HBD.out) (by have := HLT.out; omega)).mono ?_; rintro e w2 ⟨rfl, ht⟩; obtain ⟨v3, st⟩ := ht.step (HW.out.on HBD.out); have ST := Lib.hid st; have HR2 := Lib.hid (Both.step (HW.out.on HBD.out) (HR.out.on HBD.out) HBA.out.drew st); obtain ⟨d0, d1, d2⟩ := HC.out w2 (BA.out.trans (HR2.out.2.mono BA.out.size)); clear ht st d0 d2; simp only [])
                | (go_at_call 15; refine (rcancel_any wa.heap.size q now v2 ts N w2 HR2.out.1 (by have := HLT.out; omega)).mono ?_; rintro e w3 ⟨rfl, rt⟩; have HB3 := Lib.hid (Both.next (HW.out.on HBD.out) (HR.out.on HBD.out) HBA.out.drew ST.out rt); obtain ⟨e0, e1, e2⟩ := HC.out w3 (BA.out.trans (HB3.out.2.2.mono BA.out.size)); clear rt e0 e2; simp only []))
            all_goals
              clear c1 c2 d1 e1
              have HGZ : Hid (Good (eraseT ts N) ∧ (eraseT ts N).length ≤ i + 1 ∧ 0 ≤ now ∧ now ≤ 1099511627776) := Lib.hid ⟨HGD.out.sub (eraseT_sub ts N), Nat.le_trans (eraseT_length ts N) (by have := HTL.out; omega), HNOW.out⟩
              generalize (atT ts N).isSome = was
              have hww : (was == was) = true := by simp
              obtain ⟨⟨vz, hz1⟩, ⟨vz2, hz2⟩, hzb⟩ := HB3.out
              have HZ1 := Lib.hid hz1
              have HZ2 := Lib.hid hz2
              obtain ⟨z0, z1, z2⟩ := HC.out w3 (BA.out.trans (hzb.mono BA.out.size))
              clear hz1 hz2 hzb
              go_wp2_with fail
              refine (alike_any wa.heap.size p wa.heap.size q now vz vz2 (eraseT ts N) N w3 HZ1.out HZ2.out HGZ.out.1 (by have := HGZ.out.2.1; have := HL.out; omega)).mono ?_
              rintro e wy ⟨rfl, hby⟩
              have HN : Hid (PInv wa.heap.size q wa (i + 1) (.pointer (some ⟨p, 0, none⟩)) wy) := Lib.hid ⟨p, now, (eraseT ts N), rfl, HB3.out.on hby, HGZ.out.1, HGZ.out.2.1, HGZ.out.2.2⟩
              clear hby z0 z1 z2
              go_wp2
              go_roundg (l.length - (i + 1))
              case measure => omega
              case rel => exact ⟨i + 1, by omega, rfl, (by first | exact next_int i (by have := HL.out; omega) | exact congrArg _ (by omega)), HN⟩
          · have hK1' : (K == 1) = false := by simpa using hK1
            by_cases hK2 : K = 2
            · subst hK2
              clear hK0 hK0' hK1 hK1'
              by_cases hin : 0 ≤ A ∧ A ≤ 1099511627776
              · have HIN := Lib.hid hin
                clear hin
                have HGZ : Hid (Good (restT (laterT now A) ts) ∧ (restT (laterT now A) ts).length ≤ i + 1 ∧ 0 ≤ laterT now A ∧ laterT now A ≤ 1099511627776) := Lib.hid ⟨good_rest _ HGD.out, by have h1 := due_rest_length (laterT now A) ts; have := HTL.out; omega, laterT_bounds HNOW.out.1 HNOW.out.2 HIN.out.1⟩
                go_wp2_with fail
                refine (tick_ok wa.heap.size p now v1 ts A wr HW.out (by have := HLT.out; omega) HIN.out.1 HIN.out.2 HNOW.out.1 HNOW.out.2).mono ?_
                rintro e w2 ⟨xa, rfl, hxa, ht⟩
                obtain ⟨v3, st⟩ := ht.step HW.out
                have ST := Lib.hid st
                have HR2 := Lib.hid (Both.step HW.out HR.out HBA.out st)
                obtain ⟨d0, d1, d2⟩ := HC.out w2 (BA.out.trans (HR2.out.2.mono BA.out.size))
                have HXA := Lib.hid hxa
                clear ht st hxa d0 c1 c2
                go_wp2_with fail
                refine (rtick_ok wa.heap.size q now v2 ts A w2 HR2.out.1 (by have := HLT.out; omega) HIN.out.1 HIN.out.2 HNOW.out.1 HNOW.out.2).mono ?_
                rintro e w3 ⟨xb, rfl, hxb, rt⟩
                have HXA3 : Hid (IntsOwn w3 xa ((dueT (laterT now A) ts).map (·.1))) := Lib.hid (by
                  obtain ⟨_, _, ho, _⟩ := rt
                  obtain ⟨B9, h9⟩ := HXA.out
                  exact ⟨B9, ownsRow_off h9 ho (fun k e => ints_apartR h9 HR2.out.1 k e)⟩)
                have HB3 := Lib.hid (Both.next HW.out HR.out HBA.out ST.out rt)
                have HXB := Lib.hid hxb
                have HDL : Hid (((dueT (laterT now A) ts).map (·.1)).length ≤ 1000) := Lib.hid (by rw [List.length_map]; have h1 := due_rest_length (laterT now A) ts; have := HLT.out; omega)
                clear rt hxb d1 d2
                generalize (dueT (laterT now A) ts).map (·.1) = ds at *
                obtain ⟨aa, ca, rfl⟩ := HXA3.out.slice
                obtain ⟨ab, cb, rfl⟩ := HXB.out.slice
                have HBN : Hid (Below w3.heap.size w3 (w3.alloc (.cells #[.int .i64 0, .slice none 0 0] 39))) := Lib.hid (below_new _ _)
                have HRN : Hid ((w3.alloc (.cells #[.int .i64 0, .slice none 0 0] 39)).heap[w3.heap.size]? = some (.cells #[.int .i64 0, .slice none 0 0] 39 (0, 0))) := Lib.hid (heap_alloc_new w3 _)
                go_wp2_with fail
                generalize w3.alloc (.cells #[.int .i64 0, .slice none 0 0] 39) = w4 at *
                refine (ints_any _ _ ds ds w4 (HXA3.out.at.on HBN.out) (HXB.out.at.on HBN.out) (by have := HDL.out; omega)).mono ?_
                rintro e w5 ⟨rfl, hb5⟩
                have HB5 := Lib.hid ((HB3.out.on HBN.out).on hb5)
                obtain ⟨r0, r1, _, _⟩ := cell2 (keep_on hb5 HRN.out)
                clear hb5
                rw [show (ds == ds) = true by simp]
                go_wp2_with fail
                refine (same_none w5 (HK.out w5 (BA.out.trans (HB5.out.2.2.mono BA.out.size)))).mono ?_
                rintro e w6 ⟨rfl, hb6⟩
                have HB6 := Lib.hid (HB5.out.on hb6)
                clear hb6 r0 r1
                obtain ⟨⟨vz, hz1⟩, ⟨vz2, hz2⟩, hzb⟩ := HB6.out
                have HZ1 := Lib.hid hz1
                have HZ2 := Lib.hid hz2
                obtain ⟨z0, z1, z2⟩ := HC.out w6 (BA.out.trans (hzb.mono BA.out.size))
                clear hz1 hz2 hzb
                go_wp2_with fail
                refine (alike_any wa.heap.size p wa.heap.size q (laterT now A) vz vz2 (restT (laterT now A) ts) N w6 HZ1.out HZ2.out HGZ.out.1 (by have := HGZ.out.2.1; have := HL.out; omega)).mono ?_
                rintro e wy ⟨rfl, hby⟩
                have HN : Hid (PInv wa.heap.size q wa (i + 1) (.pointer (some ⟨p, 0, none⟩)) wy) := Lib.hid ⟨p, (laterT now A), (restT (laterT now A) ts), rfl, HB6.out.on hby, HGZ.out.1, HGZ.out.2.1, HGZ.out.2.2⟩
                clear hby z0 z1 z2
                go_wp2
                go_roundg (l.length - (i + 1))
                case measure => omega
                case rel => exact ⟨i + 1, by omega, rfl, (by first | exact next_int i (by have := HL.out; omega) | exact congrArg _ (by omega)), HN⟩
              · have HIN := Lib.hid hin
                clear hin
                have HGZ : Hid (Good ts ∧ ts.length ≤ i + 1 ∧ 0 ≤ now ∧ now ≤ 1099511627776) := Lib.hid ⟨HGD.out, by have := HTL.out; omega, HNOW.out⟩
                go_wp2_with fail
                refine (tick_bad p A wr HIN.out).mono ?_
                rintro e w2 ⟨x, rfl, hx, hb2⟩
                have HX := Lib.hid hx
                have HB2 := Lib.hid (HBO.out.on hb2)
                obtain ⟨te, ye, rfl⟩ := Chain.iface hx
                obtain ⟨d0, d1, d2⟩ := HC.out w2 (BA.out.trans (HB2.out.2.2.mono BA.out.size))
                clear hx hb2 d0 c1 c2
                go_wp2_with fail
                refine (rtick_bad q A w2 HIN.out).mono ?_
                rintro e w3 ⟨gg, rfl, hst, hb3⟩
                have HX3 := Lib.hid (Chain.on hb3 HX.out)
                have HST := Lib.hid hst
                have HB3 := Lib.hid (HB2.out.on hb3)
                clear hst hb3 d1 d2
                have HBN : Hid (Below w3.heap.size w3 (w3.alloc (.cells #[.int .i64 1, .slice (some ⟨gg, 0, none⟩) 1 1] 39))) := Lib.hid (below_new _ _)
                have HRN : Hid ((w3.alloc (.cells #[.int .i64 1, .slice (some ⟨gg, 0, none⟩) 1 1] 39)).heap[w3.heap.size]? = some (.cells #[.int .i64 1, .slice (some ⟨gg, 0, none⟩) 1 1] 39 (0, 0))) := Lib.hid (heap_alloc_new w3 _)
                go_wp2_with fail
                generalize w3.alloc (.cells #[.int .i64 1, .slice (some ⟨gg, 0, none⟩) 1 1] 39) = w4 at *
                refine (ints_any _ _ [] [] w4 ⟨none, 0, rfl, fun i hi => by simp at hi⟩ ⟨none, 0, rfl, fun i hi => by simp at hi⟩ (by simp)).mono ?_
                rintro e w5 ⟨rfl, hb5⟩
                have HB5 := Lib.hid ((HB3.out.on HBN.out).on hb5)
                have HX5 := Lib.hid (Chain.on hb5 (Chain.on HBN.out HX3.out))
                have HST5 := Lib.hid ((HST.out.on HBN.out).on hb5)
                obtain ⟨r0, r1, _, _⟩ := cell2 (keep_on hb5 HRN.out)
                clear hb5
                rw [show (([] : List Int) == []) = true from rfl]
                go_wp2_with fail
                refine (same_some 1 (by decide) _ _ [(sWheel, A)] w5 (HK.out w5 (BA.out.trans (HB5.out.2.2.mono BA.out.size))) HX5.out HST5.out (by simp)).mono ?_
                rintro e w6 ⟨rfl, hb6⟩
                have HB6 := Lib.hid (HB5.out.on hb6)
                clear hb6 r0 r1
                obtain ⟨⟨vz, hz1⟩, ⟨vz2, hz2⟩, hzb⟩ := HB6.out
                have HZ1 := Lib.hid hz1
                have HZ2 := Lib.hid hz2
                obtain ⟨z0, z1, z2⟩ := HC.out w6 (BA.out.trans (hzb.mono BA.out.size))
                clear hz1 hz2 hzb
                go_wp2_with fail
                refine (alike_any wa.heap.size p wa.heap.size q now vz vz2 ts N w6 HZ1.out HZ2.out HGZ.out.1 (by have := HGZ.out.2.1; have := HL.out; omega)).mono ?_
                rintro e wy ⟨rfl, hby⟩
                have HN : Hid (PInv wa.heap.size q wa (i + 1) (.pointer (some ⟨p, 0, none⟩)) wy) := Lib.hid ⟨p, now, ts, rfl, HB6.out.on hby, HGZ.out.1, HGZ.out.2.1, HGZ.out.2.2⟩
                clear hby z0 z1 z2
                go_wp2
                go_roundg (l.length - (i + 1))
                case measure => omega
                case rel => exact ⟨i + 1, by omega, rfl, (by first | exact next_int i (by have := HL.out; omega) | exact congrArg _ (by omega)), HN⟩
            · have hK2' : (K == 2) = false := by simpa using hK2
              have HGZ : Hid (Good ts ∧ ts.length ≤ i + 1 ∧ 0 ≤ now ∧ now ≤ 1099511627776) := Lib.hid ⟨HGD.out, by have := HTL.out; omega, HNOW.out⟩
              clear hK0 hK1 hK2
              go_wp2_with fail
              refine (copy_any wa.heap.size p now v1 ts wr HW.out (by have := HLT.out; omega)).mono ?_
              rintro e w2 ⟨pc, vc, rfl, hcw, hb2⟩
              have C2 := Lib.hid hcw
              have W2 := Lib.hid (HW.out.on hb2)
              have R2 := Lib.hid (HR.out.on hb2)
              have AP : Hid (∀ k, Wrote p v1 k → ¬ Wrote pc vc k) := Lib.hid (copy_apart HW.out hcw)
              have SZ : Hid (wa.heap.size ≤ wr.heap.size) := Lib.hid HBA.out.size
              have B2 : Hid (Below wa.heap.size wa w2) := Lib.hid (HBA.out.trans (hb2.mono HBA.out.size))
              clear hcw hb2 c0 c1 c2
              go_wp2_with fail
              refine (set_ok wa.heap.size p now v1 ts 999 1 w2 W2.out (by have := HLT.out; omega) (by omega) (by omega) (by omega) (by omega) HNOW.out.1 HNOW.out.2 B2.out.size).mono ?_
              rintro e w3 ⟨rfl, ht⟩
              obtain ⟨v3, st⟩ := ht.step W2.out
              have ST := Lib.hid st
              obtain ⟨hc3, ha3⟩ := Turned.other C2.out st.off st.fresh AP.out
              have C3 := Lib.hid (And.intro hc3 ha3)
              have R3 := Lib.hid (Both.step W2.out R2.out B2.out st)
              clear ht st hc3 ha3
              go_wp2_with fail
              refine (tick_ok wa.heap.size p now v3 _ 3 w3 ST.out.wh (by have h1 := setT_length now ts 999 1; have := HLT.out; omega) (by omega) (by omega) HNOW.out.1 HNOW.out.2).mono ?_
              rintro e w4 ⟨xo, rfl, hxo, ht⟩
              obtain ⟨v4, st⟩ := ht.step ST.out.wh
              obtain ⟨hc4, _⟩ := Turned.other C3.out.1 st.off st.fresh C3.out.2
              have HB4 : Hid (Both wa.heap.size pc q wa now ts w4) := Lib.hid ⟨⟨vc, hc4.lower SZ.out⟩, ⟨v2, R3.out.1.off st.off (fun k h3 h4 => wh_rw ST.out.wh R3.out.1 k h4 h3)⟩, R3.out.2.trans st.below⟩
              clear ht st hc4 hxo
              obtain ⟨⟨vz, hz1⟩, ⟨vz2, hz2⟩, hzb⟩ := HB4.out
              have HZ1 := Lib.hid hz1
              have HZ2 := Lib.hid hz2
              obtain ⟨z0, z1, z2⟩ := HC.out w4 (BA.out.trans (hzb.mono BA.out.size))
              clear hz1 hz2 hzb
              go_wp2_with fail
              refine (alike_any wa.heap.size pc wa.heap.size q now vz vz2 ts N w4 HZ1.out HZ2.out HGZ.out.1 (by have := HGZ.out.2.1; have := HL.out; omega)).mono ?_
              rintro e wy ⟨rfl, hby⟩
              have HN : Hid (PInv wa.heap.size q wa (i + 1) (.pointer (some ⟨pc, 0, none⟩)) wy) := Lib.hid ⟨pc, now, ts, rfl, HB4.out.on hby, HGZ.out.1, HGZ.out.2.1, HGZ.out.2.2⟩
              clear hby z0 z1 z2
              go_wp2
              go_roundg (l.length - (i + 1))
              case measure => omega
              case rel => exact ⟨i + 1, by omega, rfl, (by first | exact next_int i (by have := HL.out; omega) | exact congrArg _ (by omega)), HN⟩
      · have hil : (l.length : Int) ≤ (i : Int) := by omega
        have BW : Hid (Below w.heap.size w wr) := Lib.hid (BA.out.trans (hboth.2.2.mono BA.out.size))
        clear hboth hgood htl hnow hinv
        go_wp2_with fail
        refine (first_any _ (HK.out _ BW.out)).mono ?_
        rintro e w8 ⟨rfl, hb8⟩
        have B8 : Hid (Below w.heap.size w w8) := Lib.hid (BW.out.trans (hb8.mono BW.out.size))
        clear hb8
        go_wp2
        go_ret
        exact ⟨rfl, B8.out⟩
  · have hlen' : (200 : Int) < (l.length : Int) := by omega
    go_enter Tryd.func3, Tryd.ntmps3
    go_wp2_with fail
    refine (first_any _ HG.out).mono ?_
    rintro e wa ⟨rfl, hba⟩
    have BA := Lib.hid hba
    clear hba
    go_wp2_with fail
    refine (new_any _).mono ?_
    rintro e w0 ⟨rfl, hw0⟩
    have B0 : Hid (Below w.heap.size w w0) := Lib.hid (by rw [hw0]; exact BA.out.alloc BA.out.size _)
    clear hw0
    go_wp2_with fail
    all_goals first
      | (exfalso; omega)
      | (refine (first_any _ (HK.out _ B0.out)).mono ?_
         rintro e w1 ⟨rfl, hb1⟩
         have B1 : Hid (Below w.heap.size w w1) := Lib.hid (B0.out.trans (hb1.mono B0.out.size))
         clear hb1
         go_wp2
         go_ret
         exact ⟨rfl, B1.out⟩)
end Go.Proofs.YtfefkkojdcipcaaDoor
