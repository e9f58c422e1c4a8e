/- yardlaw9.PlanPlays answers true for every row of numbers and every list of calls; older memory stands. -/
import Derived.Test.YtcbiomcbkmdhaaaDoorPlA
namespace Go.Proofs.YtcbiomcbkmdhaaaDoor
open Go.RowKit Go.Extern.Stop Go.Stop Go.Extern

/-- The call answers true, and older memory stands. -/
def Fine (w : World) (e : Ending) (w' : World) : Prop := e = .returned (.bool true) ∧ Below w.heap.size w w'
/-- Both Plans, and the row that was handed in. -/
def Ready (W w1 : World) (p q B2 : Nat) (v ve vd u : Value) (l : List Int) (w : World) : Prop :=
  PlAt w w1.heap.size p v (newP l) ∧ RpAt w B2 q ve vd (newP l) ∧ InRow w W.heap.size u l.length ∧ Below W.heap.size W w

set_option maxRecDepth 100000 in
set_option maxHeartbeats 40000000 in
theorem plays_in (ao oo : Option Addr) (cap ocap : Nat) (l : List Int) (ops : List OpV) (w : World) (hg : ErrT w) (hv : IntsAt w (.slice ao l.length cap) l) (hvo : OpsAt w (.slice oo ops.length ocap) ops) (hl : l.length ≤ 300) (hol : ops.length ≤ 200) :
    Calls Tryd.prog 3 #[.slice ao l.length cap, .slice oo ops.length ocap] w (Fine w) := by
  have HK : Hid (∀ W : World, Below w.heap.size w W → ErrT W) := Lib.hid fun W hb => hg.up hb
  have HV := Lib.hid hv
  have HO := Lib.hid hvo
  have hl' : (l.length : Int) ≤ 300 := by omega
  have hol' : (ops.length : Int) ≤ 200 := by omega
  have HL0 := Lib.hid (And.intro hl hol)
  clear hv hvo hl hol hg
  go_enter Tryd.func3, Tryd.ntmps3
  go_wp2_with fail
  refine (first_any _).mono ?_
  rintro e wf ⟨rfl, hbf⟩
  have BF := Lib.hid hbf
  clear hbf
  go_wp2_with fail
  refine (copyi_any _ l wf (HV.out.on BF.out) (by have := HL0.out; omega)).mono ?_
  rintro e wa ⟨u, rfl, hu, hba⟩
  have BA := Lib.hid (BF.out.trans (hba.mono BF.out.size))
  have UA : Hid (wa.ownsRow w.heap.size 3 1 u l.length (icells l)) := Lib.hid (own_base hu BF.out.size)
  obtain ⟨ua, uc, rfl⟩ := rslice hu
  clear hu hba
  rcases new_both l with ⟨x, c, hcn, hn1, hn2⟩ | ⟨hl16, hok⟩
  · have HX := Lib.hid hcn
    have HN1 := Lib.hid hn1
    have HN2 := Lib.hid hn2
    have HL : Hid (l.length ≤ 300) := Lib.hid HL0.out.1
    clear hcn hn1 hn2
    go_wp2_with fail
    refine (HN1.out ua uc wa (intsAt_own UA.out)).mono ?_
    rintro e w1 ⟨ev, rfl, hev, hb1⟩
    have B1 := Lib.hid (BA.out.trans (hb1.mono BA.out.size))
    have U1 := Lib.hid (ownsRow_off UA.out (Off.of_below (fun _ => False) hb1) (fun _ _ f => f))
    have E1 := Lib.hid hev
    obtain ⟨bx, rfl⟩ := hev.form
    clear hev hb1
    go_wp2_with fail
    refine (HN2.out ao cap w1 (HV.out.on B1.out)).mono ?_
    rintro e w2 ⟨gg, rfl, hst, hb2⟩
    have B2' := Lib.hid (B1.out.trans (hb2.mono B1.out.size))
    have U2 := Lib.hid (ownsRow_off U1.out (Off.of_below (fun _ => False) hb2) (fun _ _ f => f))
    have hnb := below_nw w2 (.cells #[.int .i64 c, .slice (some ⟨gg, 0, none⟩) 1 1] 35)
    have E2 : Hid (Chain (w2.alloc (.cells #[.int .i64 c, .slice (some ⟨gg, 0, none⟩) 1 1] 35)) (.iface 32 (.int .i64 c)) [(sPlan, x)] (.iface 70 (.pointer (some ⟨bx, 0, none⟩))) ∧ StepsOwn (w2.alloc (.cells #[.int .i64 c, .slice (some ⟨gg, 0, none⟩) 1 1] 35)) (.slice (some ⟨gg, 0, none⟩) 1 1) [(sPlan, x)]) := Lib.hid ⟨Chain.on hnb (Chain.on hb2 E1.out.chain), hst.on hnb⟩
    have B3 := Lib.hid (B2'.out.trans (hnb.mono B2'.out.size))
    have U3 := Lib.hid (ownsRow_off U2.out (Off.of_below (fun _ => False) hnb) (fun _ _ f => f))
    clear hst hb2 hnb
    go_wp2_with fail
    generalize w2.alloc (.cells #[.int .i64 c, .slice (some ⟨gg, 0, none⟩) 1 1] 35) = w3 at *
    refine (same_some c HX.out _ _ [(sPlan, x)] w3 (HK.out _ B3.out) E2.out.1 E2.out.2 (by simp)).mono ?_
    rintro e w4 ⟨rfl, hb4⟩
    have B4 := Lib.hid (B3.out.trans (hb4.mono B3.out.size))
    have U4 := Lib.hid (ownsRow_off U3.out (Off.of_below (fun _ => False) hb4) (fun _ _ f => f))
    clear hb4
    go_wp2_with fail
    refine (ints_any _ _ l l w4 (intsAt_own U4.out) (HV.out.on B4.out) (by have := HL.out; omega)).mono ?_
    rintro e w5 ⟨rfl, hb5⟩
    rw [show (l == l) = true by simp]
    have B5 : Hid (InRow w5 w.heap.size (.slice ua l.length uc) l.length ∧ Below w.heap.size w w5) := Lib.hid ⟨⟨l, rfl, ownsRow_off U4.out (Off.of_below (fun _ => False) hb5) (fun _ _ f => f)⟩, B4.out.trans (hb5.mono B4.out.size)⟩
    clear hb5
    go_wp2_with fail
    go_loopg [10] l.length (fun k s10 wr => ∃ i : Nat, i ≤ l.length ∧ k = l.length - i ∧ s10 = .int .i64 (i : Int) ∧ Hid (InRow wr w.heap.size (.slice ua l.length uc) l.length ∧ Below w.heap.size w wr))
    case atStart => exact ⟨0, Nat.zero_le _, rfl, rfl, B5⟩
    case round =>
      obtain ⟨i, hi, rfl, rfl, hinv⟩ := hrel
      by_cases hlt : i < l.length
      · have hil : (i : Int) < (l.length : Int) := by omega
        have hi0' : (0 : Int) ≤ (i : Int) := by omega
        obtain ⟨g, c, hu, hg1, hg2⟩ := hinv.out.1.form (by omega)
        simp only [Value.slice.injEq] at hu
        obtain ⟨rfl, _, rfl⟩ := hu
        obtain ⟨⟨old, hold⟩, hfr⟩ := hinv.out.1.cell i hlt
        have HN : Hid (InRow (wr.setCell ⟨g, i, none⟩ (.int .i64 1)) w.heap.size (.slice (some ⟨g, 0, none⟩) l.length uc) l.length ∧ Below w.heap.size w (wr.setCell ⟨g, i, none⟩ (.int .i64 1))) := Lib.hid ⟨hinv.out.1.set i 1, hinv.out.2.setCell hg1 _⟩
        go_wp2
        go_roundg (l.length - (i + 1))
        case measure => omega
        case rel => exact ⟨i + 1, by omega, rfl, (by first | exact next_int i (by have := HL.out; omega) | exact congrArg _ (by omega)), HN⟩
      · have hil : (l.length : Int) ≤ (i : Int) := by omega
        have HE := Lib.hid hinv.out.2
        clear hinv
        go_wp2
        go_loopg [11] 0 (fun k s11 wr' => k = 0 ∧ s11 = .int .i64 0 ∧ Hid (Below w.heap.size w wr'))
        case atStart => exact ⟨rfl, rfl, HE⟩
        case round =>
          obtain ⟨rfl, rfl, hE⟩ := hrel
          go_wp2_with fail
          refine (first_any _).mono ?_
          rintro e w9 ⟨rfl, hb⟩
          have B9 := Lib.hid (hE.out.trans (hb.mono hE.out.size))
          clear hb
          go_wp2
          go_ret
          exact ⟨rfl, B9.out⟩
  · have HL : Hid (l.length ≤ 16 ∧ ops.length ≤ 200) := Lib.hid ⟨hl16, HL0.out.2⟩
    have HOK := Lib.hid hok
    clear hok hl16
    go_wp2_with fail
    refine (new_fine HL.out.1 HOK.out _ wa (intsAt_own UA.out)).mono ?_
    rintro e w1 ⟨p, v, rfl, hp, hb1⟩
    have B1 := Lib.hid (BA.out.trans (hb1.mono BA.out.size))
    have U1 := Lib.hid (ownsRow_off UA.out (Off.of_below (fun _ => False) hb1) (fun _ _ f => f))
    have P1 := Lib.hid hp
    clear hp hb1
    go_wp2_with fail
    refine (rnew_fine HL.out.1 HOK.out _ w1 (HV.out.on B1.out)).mono ?_
    rintro e w2 ⟨q, ve, vd, rfl, hq, hb2⟩
    have hnb := below_nw w2 (.cells #[.int .i64 0, .slice none 0 0] 35)
    have B2' := Lib.hid (B1.out.trans (hb2.mono B1.out.size))
    have B3 := Lib.hid (B2'.out.trans (hnb.mono B2'.out.size))
    have HUB : Hid (∀ k, (Value.slice ua l.length uc).ownBlock = some k → k < w1.heap.size) := Lib.hid fun k e => (U1.out.lt k e).2
    have U3 := Lib.hid (ownsRow_off (ownsRow_off U1.out (Off.of_below (fun _ => False) hb2) (fun _ _ f => f)) (Off.of_below (fun _ => False) hnb) (fun _ _ f => f))
    have P3 := Lib.hid ((P1.out.on hb2).on hnb)
    have Q3 := Lib.hid (hq.on hnb)
    clear hq hb2 hnb
    simp only [e0]
    go_wp2_with fail
    generalize w2.alloc (.cells #[.int .i64 0, .slice none 0 0] 35) = w3 at *
    refine (same_none w3 (HK.out _ B3.out)).mono ?_
    rintro e w4 ⟨rfl, hb4⟩
    have B4 := Lib.hid (B3.out.trans (hb4.mono B3.out.size))
    have U4 := Lib.hid (ownsRow_off U3.out (Off.of_below (fun _ => False) hb4) (fun _ _ f => f))
    have P4 := Lib.hid (P3.out.on hb4)
    have Q4 := Lib.hid (Q3.out.on hb4)
    clear hb4
    go_wp2_with fail
    refine (ints_any _ _ l l w4 (intsAt_own U4.out) (HV.out.on B4.out) (by have := HL.out; omega)).mono ?_
    rintro e w5 ⟨rfl, hb5⟩
    rw [show (l == l) = true by simp]
    have R5 : Hid (Ready w wa p q w1.heap.size v ve vd (.slice ua l.length uc) l w5) := Lib.hid ⟨P4.out.on hb5, Q4.out.on hb5, ⟨l, rfl, ownsRow_off U4.out (Off.of_below (fun _ => False) hb5) (fun _ _ f => f)⟩, B4.out.trans (hb5.mono B4.out.size)⟩
    have SB : Hid (w.heap.size ≤ wa.heap.size ∧ w.heap.size ≤ w1.heap.size) := Lib.hid ⟨BA.out.size, B1.out.size⟩
    clear hb5
    generalize w1.heap.size = B2 at *
    go_wp2_with fail
    go_loopg [10] l.length (fun k s10 wr => ∃ i : Nat, i ≤ l.length ∧ k = l.length - i ∧ s10 = .int .i64 (i : Int) ∧ Hid (Ready w wa p q B2 v ve vd (.slice ua l.length uc) l wr))
    case atStart => exact ⟨0, Nat.zero_le _, rfl, rfl, R5⟩
    case round =>
      obtain ⟨i, hi, rfl, rfl, hinv⟩ := hrel
      by_cases hlt : i < l.length
      · have hil : (i : Int) < (l.length : Int) := by omega
        have hi0' : (0 : Int) ≤ (i : Int) := by omega
        obtain ⟨g, c, hu, hg1, hg2⟩ := hinv.out.2.2.1.form (by omega)
        simp only [Value.slice.injEq] at hu
        obtain ⟨rfl, _, rfl⟩ := hu
        obtain ⟨⟨old, hold⟩, hfr⟩ := hinv.out.2.2.1.cell i hlt
        have HN : Hid (Ready w wa p q B2 v ve vd (.slice (some ⟨g, 0, none⟩) l.length uc) l (wr.setCell ⟨g, i, none⟩ (.int .i64 1))) := Lib.hid (by
          have hs : Off (fun k => k = g) wr (wr.setCell ⟨g, i, none⟩ (.int .i64 1)) := Off.set _ _ _ _ rfl
          have hgB : g < B2 := HUB.out g rfl
          have hgp : ∀ k, v.ownBlock = some k → ¬ k = g := fun k e1 e2 => by
            obtain ⟨xs, _, hx⟩ := hinv.out.2.2.1
            exact rows_apart hx hinv.out.1.own (by decide) g rfl (by rw [e1, e2])
          refine ⟨hinv.out.1.off hs (fun e => ?_) hgp, hinv.out.2.1.off hs (fun e => by have := hinv.out.2.1.base; omega) (fun k e1 e2 => by have := (hinv.out.2.1.ev.lt k e1).1; omega) (fun k e1 e2 => by have := (hinv.out.2.1.du.lt k e1).1; omega), hinv.out.2.2.1.set i 1, hinv.out.2.2.2.setCell hg1 _⟩
          obtain ⟨xs, _, hx⟩ := hinv.out.2.2.1
          exact row_no hx hinv.out.1.obj (by decide) (by rw [e]; rfl))
        go_wp2
        go_roundg (l.length - (i + 1))
        case measure => omega
        case rel => exact ⟨i + 1, by omega, rfl, (by first | exact next_int i (by have := HL.out; omega) | exact congrArg _ (by omega)), HN⟩
      · have hil : (l.length : Int) ≤ (i : Int) := by omega
        have B0 : Hid (∃ v ts, Both w p q v ve vd l ts wr) := Lib.hid ⟨v, newP l, hinv.out.1.weak SB.out.1, hinv.out.2.1.weak SB.out.2, pollsOk_new HOK.out, hinv.out.2.2.2⟩
        obtain ⟨p0, hp0⟩ : ∃ p0, p0 = p := ⟨p, rfl⟩
        rw [← hp0] at B0 ⊢
        clear hinv hp0
        obtain ⟨wB, hwB⟩ : ∃ wB, wB = w := ⟨w, rfl⟩
        have BW : Hid (Below w.heap.size w wB) := Lib.hid (by rw [hwB]; exact Below.refl _ _)
        rw [← hwB] at B0
        clear hwB
        go_wp2_with fail
        go_loopg [6, 11] ops.length (fun k s6 s11 wr => ∃ (i p : Nat), i ≤ ops.length ∧ k = ops.length - i ∧ s6 = .pointer (some ⟨p, 0, none⟩) ∧ s11 = .int .i64 (i : Int) ∧ Hid (∃ v ts, Both wB p q v ve vd l ts wr))
        case atStart => exact ⟨0, p0, Nat.zero_le _, rfl, rfl, rfl, B0⟩
        case round =>
          obtain ⟨i, p, hi, rfl, rfl, rfl, hinv⟩ := hrel
          by_cases hlt : i < ops.length
          · have hil : (i : Int) < (ops.length : Int) := by omega
            have hi0' : (0 : Int) ≤ (i : Int) := by omega
            obtain ⟨b, off, hbo, hco⟩ := HO.out.each i hlt
            subst hbo
            obtain ⟨K, hK⟩ : ∃ K, K = ops[i].kind := ⟨_, rfl⟩
            obtain ⟨I, hI⟩ : ∃ I, I = ops[i].n := ⟨_, rfl⟩
            obtain ⟨N, hN⟩ : ∃ N, N = ops[i].a := ⟨_, rfl⟩
            rw [← hK, ← hI, ← hN] at hco
            have HC : Hid (∀ W, Below wB.heap.size wB W → W.cell? ⟨b, off + i * 3, none⟩ = some (.int .i64 K) ∧ W.cell? ⟨b, off + i * 3 + 1, none⟩ = some (.int .i64 I) ∧ W.cell? ⟨b, off + i * 3 + 2, none⟩ = some (.int .i64 N)) := Lib.hid fun W hW => hco W (BW.out.trans (hW.mono BW.out.size))
            obtain ⟨v, ts, hboth⟩ := hinv.out
            have HW := Lib.hid hboth
            clear hco hK hI hN hboth hinv
            obtain ⟨c0, c1, c2⟩ := HC.out wr HW.out.2.2.2
            by_cases hK0 : K = 0
            · subst hK0
              have HBD : Hid (Both wB p q v ve vd l ts wr.drew) := Lib.hid (HW.out.on (below_drew wr 1))
              by_cases hin : doneR ts I N
              · have HIN := Lib.hid hin
                clear hin
                go_wp2_with fail
                go_region_held3 (fun w' => w'.cell? ⟨b, off + i * 3 + 1, none⟩ = some (.int .i64 I) ∧ w'.cell? ⟨b, off + i * 3 + 2, none⟩ = some (.int .i64 N))
                  (first
                    | exact ⟨c1, c2⟩
                    | exact ⟨d1, d2⟩
                    | exact ⟨e1, e2⟩
                    | exact ⟨f1, f2⟩
                    | go_keep)
                  (first
                    | (go_at_call 10; refine (bdone_yes HBD.out I N HIN.out).mono ?_; rintro e w2 ⟨rfl, h2⟩; have H2 := Lib.hid h2; obtain ⟨d0, d1, d2⟩ := HC.out w2 H2.out.2.2.2.2; clear h2 d0; simp only [])
                    | (go_at_call 11; refine (hrdone_yes H2.out HIN.out).mono ?_; rintro e w3 ⟨rfl, h3⟩; have H3 := Lib.hid h3; obtain ⟨e0', e1, e2⟩ := HC.out w3 H3.out.2.2.2; clear h3 e0'; simp only [e0])
                    | (go_at_call 8; refine (same_none w3 (HK.out w3 (BW.out.trans (H3.out.2.2.2.mono BW.out.size)))).mono ?_; rintro e w4 ⟨rfl, hb4⟩; have H4 := Lib.hid (H3.out.on hb4); obtain ⟨f0, f1, f2⟩ := HC.out w4 H4.out.2.2.2; clear hb4 f0; simp only []))
                all_goals
                  clear c0 c1 c2 d1 d2 e1 e2 f1 f2
                  generalize doneA ts I N = tt at *
                  have HT := H4
                  by_cases hh : hasP tt I = true
                  · obtain ⟨n, hn, hnl⟩ : ∃ n : Nat, I = (n : Int) ∧ n < l.length := by
                      have h1 : 0 ≤ I ∧ I < ((tt).length : Int) := by simpa [hasP] using hh
                      rw [HT.out.2.2.1.len] at h1
                      exact ⟨I.toNat, by omega, by omega⟩
                    have HNL := Lib.hid hnl
                    have HDY : Hid (∀ W v', PlAt W wB.heap.size p v' (tt) → Calls Tryd.prog 15 #[.pointer (some ⟨p, 0, none⟩), .int .i64 I] W fun e w' => e = .returned (.tuple #[.int .i64 (dueP (tt) n), .bool true]) ∧ Below W.heap.size W w') := Lib.hid fun W v' h => by rw [hn]; exact due_yes _ _ v' _ n W h (by rw [HT.out.2.2.1.len]; exact hnl)
                    have HRY : Hid (∀ W, RpAt W wB.heap.size q ve vd (tt) → Calls Tryd.prog 16 #[.pointer (some ⟨q, 0, none⟩), .int .i64 I] W fun e w' => e = .returned (.tuple #[.int .i64 (dueP (tt) n), .bool true]) ∧ Below W.heap.size W w') := Lib.hid fun W h => by rw [hn]; exact rdue_yes _ _ ve vd _ n W h (by rw [HT.out.2.2.1.len]; exact hnl)
                    clear hn hnl hh
                    generalize dueP (tt) n = D at *
                    have hDD : (D != D) = false := by simp
                    obtain ⟨z0, z1, z2⟩ := HC.out _ HT.out.2.2.2
                    go_wp2_with fail
                    refine (HDY.out _ _ HT.out.1).mono ?_
                    rintro e w7 ⟨rfl, hb7⟩
                    have H7 := Lib.hid (HT.out.on hb7)
                    clear hb7 z0 z1 z2
                    obtain ⟨z0, z1, z2⟩ := HC.out _ H7.out.2.2.2
                    go_wp2_with fail
                    refine (HRY.out _ H7.out.2.1).mono ?_
                    rintro e w8 ⟨rfl, hb8⟩
                    have H8 := Lib.hid (H7.out.on hb8)
                    clear hb8 z0 z1 z2
                    go_wp2_with fail
                    refine (len_any _ _ _ _ _ H8.out.1).mono ?_
                    rintro e w9 ⟨rfl, rfl⟩
                    rw [H8.out.2.2.1.len]
                    have hLL : ((l.length : Int) != (l.length : Int)) = false := by simp
                    have HN : Hid (∃ v' ts', Both wB p q v' ve vd l ts' w8) := Lib.hid ⟨_, _, H8.out⟩
                    go_wp2
                    go_roundg (ops.length - (i + 1))
                    case measure => omega
                    case rel => exact ⟨i + 1, p, by omega, rfl, rfl, (by first | exact next_int i (by have := HL.out; omega) | exact congrArg _ (by omega)), HN⟩
                  · have HDY : Hid (∀ W v', PlAt W wB.heap.size p v' (tt) → Calls Tryd.prog 15 #[.pointer (some ⟨p, 0, none⟩), .int .i64 I] W fun e w' => e = .returned (.tuple #[.int .i64 0, .bool false]) ∧ Below W.heap.size W w') := Lib.hid fun W v' h => due_no _ _ v' _ I W h (by simpa using hh)
                    have HRY : Hid (∀ W, RpAt W wB.heap.size q ve vd (tt) → Calls Tryd.prog 16 #[.pointer (some ⟨q, 0, none⟩), .int .i64 I] W fun e w' => e = .returned (.tuple #[.int .i64 0, .bool false]) ∧ Below W.heap.size W w') := Lib.hid fun W h => rdue_no _ _ ve vd _ I W h (by simpa using hh)
                    clear hh
                    obtain ⟨z0, z1, z2⟩ := HC.out _ HT.out.2.2.2
                    go_wp2_with fail
                    refine (HDY.out _ _ HT.out.1).mono ?_
                    rintro e w7 ⟨rfl, hb7⟩
                    have H7 := Lib.hid (HT.out.on hb7)
                    clear hb7 z0 z1 z2
                    obtain ⟨z0, z1, z2⟩ := HC.out _ H7.out.2.2.2
                    go_wp2_with fail
                    refine (HRY.out _ H7.out.2.1).mono ?_
                    rintro e w8 ⟨rfl, hb8⟩
                    have H8 := Lib.hid (H7.out.on hb8)
                    clear hb8 z0 z1 z2
                    go_wp2_with fail
                    refine (len_any _ _ _ _ _ H8.out.1).mono ?_
                    rintro e w9 ⟨rfl, rfl⟩
                    rw [H8.out.2.2.1.len]
                    have hLL : ((l.length : Int) != (l.length : Int)) = false := by simp
                    have HN : Hid (∃ v' ts', Both wB p q v' ve vd l ts' w8) := Lib.hid ⟨_, _, H8.out⟩
                    go_wp2
                    go_roundg (ops.length - (i + 1))
                    case measure => omega
                    case rel => exact ⟨i + 1, p, by omega, rfl, rfl, (by first | exact next_int i (by have := HL.out; omega) | exact congrArg _ (by omega)), HN⟩

              · have HIN := Lib.hid hin
                clear hin
                go_wp2_with fail
                go_region_held3 (fun w' => w'.cell? ⟨b, off + i * 3 + 1, none⟩ = some (.int .i64 I) ∧ w'.cell? ⟨b, off + i * 3 + 2, none⟩ = some (.int .i64 N))
                  (first
                    | exact ⟨c1, c2⟩
                    | exact ⟨d1, d2⟩
                    | exact ⟨e1, e2⟩
                    | exact ⟨f1, f2⟩
                    | go_keep)
                  (first
                    | (go_at_call 10; refine (bdone_no HBD.out I N HIN.out).mono ?_; rintro e w2 ⟨bx, rfl, hx, h2⟩; have H2 := Lib.hid (And.intro h2 hx); obtain ⟨d0, d1, d2⟩ := HC.out w2 H2.out.1.2.2.2; clear h2 hx d0; simp only [])
                    | (go_at_call 11; refine (brdone_no H2.out.1 I N HIN.out).mono ?_; rintro e w3 ⟨gg, rfl, hst, hb3⟩; have H3 := Lib.hid (And.intro (H2.out.1.on hb3) (And.intro hst (Chain.on hb3 H2.out.2.chain))); obtain ⟨e0', e1, e2⟩ := HC.out w3 H3.out.1.2.2.2; clear hst hb3 e0'; simp only [])
                    | (go_at_call 8; refine (same_some _ (dcode_ne ts I) _ _ [(sPlan, I)] w3 (HK.out w3 (BW.out.trans (H3.out.1.2.2.2.mono BW.out.size))) H3.out.2.2 H3.out.2.1 (by simp)).mono ?_; rintro e w4 ⟨rfl, hb4⟩; have H4 := Lib.hid (H3.out.1.on hb4); obtain ⟨f0, f1, f2⟩ := HC.out w4 H4.out.2.2.2; clear hb4 f0; simp only []))
                all_goals
                  clear c0 c1 c2 d1 d2 e1 e2 f1 f2
                  have HT := H4
                  by_cases hh : hasP ts I = true
                  · obtain ⟨n, hn, hnl⟩ : ∃ n : Nat, I = (n : Int) ∧ n < l.length := by
                      have h1 : 0 ≤ I ∧ I < ((ts).length : Int) := by simpa [hasP] using hh
                      rw [HT.out.2.2.1.len] at h1
                      exact ⟨I.toNat, by omega, by omega⟩
                    have HNL := Lib.hid hnl
                    have HDY : Hid (∀ W v', PlAt W wB.heap.size p v' (ts) → Calls Tryd.prog 15 #[.pointer (some ⟨p, 0, none⟩), .int .i64 I] W fun e w' => e = .returned (.tuple #[.int .i64 (dueP (ts) n), .bool true]) ∧ Below W.heap.size W w') := Lib.hid fun W v' h => by rw [hn]; exact due_yes _ _ v' _ n W h (by rw [HT.out.2.2.1.len]; exact hnl)
                    have HRY : Hid (∀ W, RpAt W wB.heap.size q ve vd (ts) → Calls Tryd.prog 16 #[.pointer (some ⟨q, 0, none⟩), .int .i64 I] W fun e w' => e = .returned (.tuple #[.int .i64 (dueP (ts) n), .bool true]) ∧ Below W.heap.size W w') := Lib.hid fun W h => by rw [hn]; exact rdue_yes _ _ ve vd _ n W h (by rw [HT.out.2.2.1.len]; exact hnl)
                    clear hn hnl hh
                    generalize dueP (ts) n = D at *
                    have hDD : (D != D) = false := by simp
                    obtain ⟨z0, z1, z2⟩ := HC.out _ HT.out.2.2.2
                    go_wp2_with fail
                    refine (HDY.out _ _ HT.out.1).mono ?_
                    rintro e w7 ⟨rfl, hb7⟩
                    have H7 := Lib.hid (HT.out.on hb7)
                    clear hb7 z0 z1 z2
                    obtain ⟨z0, z1, z2⟩ := HC.out _ H7.out.2.2.2
                    go_wp2_with fail
                    refine (HRY.out _ H7.out.2.1).mono ?_
                    rintro e w8 ⟨rfl, hb8⟩
                    have H8 := Lib.hid (H7.out.on hb8)
                    clear hb8 z0 z1 z2
                    go_wp2_with fail
                    refine (len_any _ _ _ _ _ H8.out.1).mono ?_
                    rintro e w9 ⟨rfl, rfl⟩
                    rw [H8.out.2.2.1.len]
                    have hLL : ((l.length : Int) != (l.length : Int)) = false := by simp
                    have HN : Hid (∃ v' ts', Both wB p q v' ve vd l ts' w8) := Lib.hid ⟨_, _, H8.out⟩
                    go_wp2
                    go_roundg (ops.length - (i + 1))
                    case measure => omega
                    case rel => exact ⟨i + 1, p, by omega, rfl, rfl, (by first | exact next_int i (by have := HL.out; omega) | exact congrArg _ (by omega)), HN⟩
                  · have HDY : Hid (∀ W v', PlAt W wB.heap.size p v' (ts) → Calls Tryd.prog 15 #[.pointer (some ⟨p, 0, none⟩), .int .i64 I] W fun e w' => e = .returned (.tuple #[.int .i64 0, .bool false]) ∧ Below W.heap.size W w') := Lib.hid fun W v' h => due_no _ _ v' _ I W h (by simpa using hh)
                    have HRY : Hid (∀ W, RpAt W wB.heap.size q ve vd (ts) → Calls Tryd.prog 16 #[.pointer (some ⟨q, 0, none⟩), .int .i64 I] W fun e w' => e = .returned (.tuple #[.int .i64 0, .bool false]) ∧ Below W.heap.size W w') := Lib.hid fun W h => rdue_no _ _ ve vd _ I W h (by simpa using hh)
                    clear hh
                    obtain ⟨z0, z1, z2⟩ := HC.out _ HT.out.2.2.2
                    go_wp2_with fail
                    refine (HDY.out _ _ HT.out.1).mono ?_
                    rintro e w7 ⟨rfl, hb7⟩
                    have H7 := Lib.hid (HT.out.on hb7)
                    clear hb7 z0 z1 z2
                    obtain ⟨z0, z1, z2⟩ := HC.out _ H7.out.2.2.2
                    go_wp2_with fail
                    refine (HRY.out _ H7.out.2.1).mono ?_
                    rintro e w8 ⟨rfl, hb8⟩
                    have H8 := Lib.hid (H7.out.on hb8)
                    clear hb8 z0 z1 z2
                    go_wp2_with fail
                    refine (len_any _ _ _ _ _ H8.out.1).mono ?_
                    rintro e w9 ⟨rfl, rfl⟩
                    rw [H8.out.2.2.1.len]
                    have hLL : ((l.length : Int) != (l.length : Int)) = false := by simp
                    have HN : Hid (∃ v' ts', Both wB p q v' ve vd l ts' w8) := Lib.hid ⟨_, _, H8.out⟩
                    go_wp2
                    go_roundg (ops.length - (i + 1))
                    case measure => omega
                    case rel => exact ⟨i + 1, p, by omega, rfl, rfl, (by first | exact next_int i (by have := HL.out; omega) | exact congrArg _ (by omega)), HN⟩

            · have hK0' : (K == 0) = false := by simpa using hK0
              by_cases hK1 : K = 1
              · subst hK1
                clear hK0 hK0'
                go_wp2_with fail
                refine (next_any _ p v ts N _ HW.out.1 (by rw [HW.out.2.2.1.len]; exact HL.out.1)).mono ?_
                rintro e w2 ⟨rfl, hb2⟩
                have H2 := Lib.hid (HW.out.on hb2)
                clear hb2 c0 c1 c2
                obtain ⟨c0, c1, c2⟩ := HC.out _ H2.out.2.2.2
                unfold nextV
                go_wp2_with fail
                refine (rnext_any _ q ve vd ts N _ H2.out.2.1 (by rw [HW.out.2.2.1.len]; exact HL.out.1)).mono ?_
                rintro e w3 ⟨rfl, hb3⟩
                have H3 := Lib.hid (H2.out.on hb3)
                clear hb3 c0 c1 c2
                unfold nextV
                generalize (nextP ts N).isSome = some1 at *
                generalize (((nextP ts N).getD 0 : Nat) : Int) = got at *
                have hg1 : (got == got) = true := by simp
                have hg2 : (some1 == some1) = true := by simp
                have HT := H3
                by_cases hh : hasP ts I = true
                · obtain ⟨n, hn, hnl⟩ : ∃ n : Nat, I = (n : Int) ∧ n < l.length := by
                    have h1 : 0 ≤ I ∧ I < ((ts).length : Int) := by simpa [hasP] using hh
                    rw [HT.out.2.2.1.len] at h1
                    exact ⟨I.toNat, by omega, by omega⟩
                  have HNL := Lib.hid hnl
                  have HDY : Hid (∀ W v', PlAt W wB.heap.size p v' (ts) → Calls Tryd.prog 15 #[.pointer (some ⟨p, 0, none⟩), .int .i64 I] W fun e w' => e = .returned (.tuple #[.int .i64 (dueP (ts) n), .bool true]) ∧ Below W.heap.size W w') := Lib.hid fun W v' h => by rw [hn]; exact due_yes _ _ v' _ n W h (by rw [HT.out.2.2.1.len]; exact hnl)
                  have HRY : Hid (∀ W, RpAt W wB.heap.size q ve vd (ts) → Calls Tryd.prog 16 #[.pointer (some ⟨q, 0, none⟩), .int .i64 I] W fun e w' => e = .returned (.tuple #[.int .i64 (dueP (ts) n), .bool true]) ∧ Below W.heap.size W w') := Lib.hid fun W h => by rw [hn]; exact rdue_yes _ _ ve vd _ n W h (by rw [HT.out.2.2.1.len]; exact hnl)
                  clear hn hnl hh
                  generalize dueP (ts) n = D at *
                  have hDD : (D != D) = false := by simp
                  obtain ⟨z0, z1, z2⟩ := HC.out _ HT.out.2.2.2
                  go_wp2_with fail
                  refine (HDY.out _ _ HT.out.1).mono ?_
                  rintro e w7 ⟨rfl, hb7⟩
                  have H7 := Lib.hid (HT.out.on hb7)
                  clear hb7 z0 z1 z2
                  obtain ⟨z0, z1, z2⟩ := HC.out _ H7.out.2.2.2
                  go_wp2_with fail
                  refine (HRY.out _ H7.out.2.1).mono ?_
                  rintro e w8 ⟨rfl, hb8⟩
                  have H8 := Lib.hid (H7.out.on hb8)
                  clear hb8 z0 z1 z2
                  go_wp2_with fail
                  refine (len_any _ _ _ _ _ H8.out.1).mono ?_
                  rintro e w9 ⟨rfl, rfl⟩
                  rw [H8.out.2.2.1.len]
                  have hLL : ((l.length : Int) != (l.length : Int)) = false := by simp
                  have HN : Hid (∃ v' ts', Both wB p q v' ve vd l ts' w8) := Lib.hid ⟨_, _, H8.out⟩
                  go_wp2
                  go_roundg (ops.length - (i + 1))
                  case measure => omega
                  case rel => exact ⟨i + 1, p, by omega, rfl, rfl, (by first | exact next_int i (by have := HL.out; omega) | exact congrArg _ (by omega)), HN⟩
                · have HDY : Hid (∀ W v', PlAt W wB.heap.size p v' (ts) → Calls Tryd.prog 15 #[.pointer (some ⟨p, 0, none⟩), .int .i64 I] W fun e w' => e = .returned (.tuple #[.int .i64 0, .bool false]) ∧ Below W.heap.size W w') := Lib.hid fun W v' h => due_no _ _ v' _ I W h (by simpa using hh)
                  have HRY : Hid (∀ W, RpAt W wB.heap.size q ve vd (ts) → Calls Tryd.prog 16 #[.pointer (some ⟨q, 0, none⟩), .int .i64 I] W fun e w' => e = .returned (.tuple #[.int .i64 0, .bool false]) ∧ Below W.heap.size W w') := Lib.hid fun W h => rdue_no _ _ ve vd _ I W h (by simpa using hh)
                  clear hh
                  obtain ⟨z0, z1, z2⟩ := HC.out _ HT.out.2.2.2
                  go_wp2_with fail
                  refine (HDY.out _ _ HT.out.1).mono ?_
                  rintro e w7 ⟨rfl, hb7⟩
                  have H7 := Lib.hid (HT.out.on hb7)
                  clear hb7 z0 z1 z2
                  obtain ⟨z0, z1, z2⟩ := HC.out _ H7.out.2.2.2
                  go_wp2_with fail
                  refine (HRY.out _ H7.out.2.1).mono ?_
                  rintro e w8 ⟨rfl, hb8⟩
                  have H8 := Lib.hid (H7.out.on hb8)
                  clear hb8 z0 z1 z2
                  go_wp2_with fail
                  refine (len_any _ _ _ _ _ H8.out.1).mono ?_
                  rintro e w9 ⟨rfl, rfl⟩
                  rw [H8.out.2.2.1.len]
                  have hLL : ((l.length : Int) != (l.length : Int)) = false := by simp
                  have HN : Hid (∃ v' ts', Both wB p q v' ve vd l ts' w8) := Lib.hid ⟨_, _, H8.out⟩
                  go_wp2
                  go_roundg (ops.length - (i + 1))
                  case measure => omega
                  case rel => exact ⟨i + 1, p, by omega, rfl, rfl, (by first | exact next_int i (by have := HL.out; omega) | exact congrArg _ (by omega)), HN⟩

              · have hK1' : (K == 1) = false := by simpa using hK1
                clear hK0 hK1
                go_wp2_with fail
                refine (copy_any _ p v ts _ HW.out.1 (by rw [HW.out.2.2.1.len]; have := HL.out.1; omega)).mono ?_
                rintro e w2 ⟨p2, v2, rfl, hp2, hb2⟩
                have H2 := Lib.hid (HW.out.on hb2)
                have P2 := Lib.hid hp2
                have HS2 := Lib.hid (And.intro HW.out.1.lt HW.out.1.rlt)
                clear hb2 hp2 c0 c1 c2
                go_wp2_with fail
                refine (done_any _ p v l ts 0 7 _ H2.out.1 H2.out.2.2.1).mono ?_
                rintro e w3 ⟨x, rfl, hp3, ho3, hx3⟩
                have H3 : Hid (Both wB p2 q v2 ve vd l ts w3) := Lib.hid ⟨(P2.out.off ho3 (fun e => by have h1 := P2.out.base; have h2 := (HS2.out.2 _ e).2; omega) (fun k e1 e2 => by have h1 := (P2.out.rlt k e1).1; have h2 := (HS2.out.2 k e2).2; omega)).weak HW.out.2.2.2.size, keep_r H2.out.1 H2.out.2.1 ho3, H2.out.2.2.1, H2.out.2.2.2.trans (off_below H2.out.1 ho3)⟩
                have HXF : Hid (x = .nilIface ∨ ∃ bx : Nat, x = .iface 70 (.pointer (some ⟨bx, 0, none⟩))) := Lib.hid (by
                  rcases hx3 with ⟨_, h⟩ | ⟨_, h⟩
                  · exact .inl h
                  · exact .inr h.form)
                clear hp3 ho3 hx3
                rcases HXF.out with rfl | ⟨bx, rfl⟩ <;> (
                  have HT := H3
                  by_cases hh : hasP ts I = true
                  · obtain ⟨n, hn, hnl⟩ : ∃ n : Nat, I = (n : Int) ∧ n < l.length := by
                      have h1 : 0 ≤ I ∧ I < ((ts).length : Int) := by simpa [hasP] using hh
                      rw [HT.out.2.2.1.len] at h1
                      exact ⟨I.toNat, by omega, by omega⟩
                    have HNL := Lib.hid hnl
                    have HDY : Hid (∀ W v', PlAt W wB.heap.size p2 v' (ts) → Calls Tryd.prog 15 #[.pointer (some ⟨p2, 0, none⟩), .int .i64 I] W fun e w' => e = .returned (.tuple #[.int .i64 (dueP (ts) n), .bool true]) ∧ Below W.heap.size W w') := Lib.hid fun W v' h => by rw [hn]; exact due_yes _ _ v' _ n W h (by rw [HT.out.2.2.1.len]; exact hnl)
                    have HRY : Hid (∀ W, RpAt W wB.heap.size q ve vd (ts) → Calls Tryd.prog 16 #[.pointer (some ⟨q, 0, none⟩), .int .i64 I] W fun e w' => e = .returned (.tuple #[.int .i64 (dueP (ts) n), .bool true]) ∧ Below W.heap.size W w') := Lib.hid fun W h => by rw [hn]; exact rdue_yes _ _ ve vd _ n W h (by rw [HT.out.2.2.1.len]; exact hnl)
                    clear hn hnl hh
                    generalize dueP (ts) n = D at *
                    have hDD : (D != D) = false := by simp
                    obtain ⟨z0, z1, z2⟩ := HC.out _ HT.out.2.2.2
                    go_wp2_with fail
                    refine (HDY.out _ _ HT.out.1).mono ?_
                    rintro e w7 ⟨rfl, hb7⟩
                    have H7 := Lib.hid (HT.out.on hb7)
                    clear hb7 z0 z1 z2
                    obtain ⟨z0, z1, z2⟩ := HC.out _ H7.out.2.2.2
                    go_wp2_with fail
                    refine (HRY.out _ H7.out.2.1).mono ?_
                    rintro e w8 ⟨rfl, hb8⟩
                    have H8 := Lib.hid (H7.out.on hb8)
                    clear hb8 z0 z1 z2
                    go_wp2_with fail
                    refine (len_any _ _ _ _ _ H8.out.1).mono ?_
                    rintro e w9 ⟨rfl, rfl⟩
                    rw [H8.out.2.2.1.len]
                    have hLL : ((l.length : Int) != (l.length : Int)) = false := by simp
                    have HN : Hid (∃ v' ts', Both wB p2 q v' ve vd l ts' w8) := Lib.hid ⟨_, _, H8.out⟩
                    go_wp2
                    go_roundg (ops.length - (i + 1))
                    case measure => omega
                    case rel => exact ⟨i + 1, p2, by omega, rfl, rfl, (by first | exact next_int i (by have := HL.out; omega) | exact congrArg _ (by omega)), HN⟩
                  · have HDY : Hid (∀ W v', PlAt W wB.heap.size p2 v' (ts) → Calls Tryd.prog 15 #[.pointer (some ⟨p2, 0, none⟩), .int .i64 I] W fun e w' => e = .returned (.tuple #[.int .i64 0, .bool false]) ∧ Below W.heap.size W w') := Lib.hid fun W v' h => due_no _ _ v' _ I W h (by simpa using hh)
                    have HRY : Hid (∀ W, RpAt W wB.heap.size q ve vd (ts) → Calls Tryd.prog 16 #[.pointer (some ⟨q, 0, none⟩), .int .i64 I] W fun e w' => e = .returned (.tuple #[.int .i64 0, .bool false]) ∧ Below W.heap.size W w') := Lib.hid fun W h => rdue_no _ _ ve vd _ I W h (by simpa using hh)
                    clear hh
                    obtain ⟨z0, z1, z2⟩ := HC.out _ HT.out.2.2.2
                    go_wp2_with fail
                    refine (HDY.out _ _ HT.out.1).mono ?_
                    rintro e w7 ⟨rfl, hb7⟩
                    have H7 := Lib.hid (HT.out.on hb7)
                    clear hb7 z0 z1 z2
                    obtain ⟨z0, z1, z2⟩ := HC.out _ H7.out.2.2.2
                    go_wp2_with fail
                    refine (HRY.out _ H7.out.2.1).mono ?_
                    rintro e w8 ⟨rfl, hb8⟩
                    have H8 := Lib.hid (H7.out.on hb8)
                    clear hb8 z0 z1 z2
                    go_wp2_with fail
                    refine (len_any _ _ _ _ _ H8.out.1).mono ?_
                    rintro e w9 ⟨rfl, rfl⟩
                    rw [H8.out.2.2.1.len]
                    have hLL : ((l.length : Int) != (l.length : Int)) = false := by simp
                    have HN : Hid (∃ v' ts', Both wB p2 q v' ve vd l ts' w8) := Lib.hid ⟨_, _, H8.out⟩
                    go_wp2
                    go_roundg (ops.length - (i + 1))
                    case measure => omega
                    case rel => exact ⟨i + 1, p2, by omega, rfl, rfl, (by first | exact next_int i (by have := HL.out; omega) | exact congrArg _ (by omega)), HN⟩)

          · have hil : (ops.length : Int) ≤ (i : Int) := by omega
            obtain ⟨v, ts, hboth⟩ := hinv.out
            have HB9 := Lib.hid (BW.out.trans (hboth.2.2.2.mono BW.out.size))
            clear hboth hinv
            go_wp2_with fail
            refine (first_any _).mono ?_
            rintro e w5 ⟨rfl, hb⟩
            have B5 := Lib.hid (HB9.out.trans (hb.mono HB9.out.size))
            clear hb
            go_wp2
            go_ret
            exact ⟨rfl, B5.out⟩
end Go.Proofs.YtcbiomcbkmdhaaaDoor
