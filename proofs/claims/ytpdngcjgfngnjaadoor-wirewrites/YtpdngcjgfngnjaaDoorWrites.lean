/- yardlaw2.WireWrites answers true for every list of fields; memory that was there stands. -/
import Derived.Test.YtpdngcjgfngnjaaDoorRefW2
import Derived.Test.YtpdngcjgfngnjaaDoorBackLaw
namespace Go.Proofs.YtpdngcjgfngnjaaDoor
open Go.RowKit Go.Extern.Stop Go.Stop Go.Extern

/-- The program's Writer and the document's, side by side. -/
structure WW (w W : World) (bw xb : Nat) (u y : Value) (M M2 : List UInt8) : Prop where
  a : WrAt W w.heap.size bw u M
  x : RfAt W w.heap.size xb y M2
  ap : ∀ k, u.ownBlock = some k → y.ownBlock ≠ some k
  below : Below w.heap.size w W
/-- The variable that holds the document's error. -/
def Fb (W : World) (fb : Nat) (c : Int) (s : Value) : Prop := W.heap[fb]? = some (.cells #[.int .i64 c, s] 37 (0, 0))
theorem WW.on {w W W' : World} {bw xb : Nat} {u y : Value} {M M2 : List UInt8} (h : WW w W bw xb u y M M2) (hb : Below W.heap.size W W') : WW w W' bw xb u y M M2 := ⟨h.a.on hb, h.x.on hb, h.ap, h.below.trans (hb.mono h.below.size)⟩
theorem WW.ref {w W W' : World} {bw xb : Nat} {u y : Value} {M M2 m : List UInt8} (h : WW w W bw xb u y M M2) (hp : RfPut W w.heap.size xb y M2 m W') : ∃ y', WW w W' bw xb u y' M (M2 ++ m) := by
  obtain ⟨y', h1, h2, h3⟩ := hp
  refine ⟨y', h.a.off h2 (fun s => ?_) (fun k hk s => ?_), h1, fun k hk e => ?_, h.below.trans (h2.below h.below.size (fun k s => ?_))⟩
  · rcases s with s | s
    · subst s
      exact types_apart h.a.obj h.x.obj (by decide)
    · exact row_no h.x.own h.a.obj (by decide) s
  · rcases s with s | s
    · subst s
      exact row_no h.a.own h.x.obj (by decide) hk
    · exact h.ap k hk s
  · rcases h3 k e with s | s
    · exact h.ap k hk s
    · have := (h.a.own.lt k hk).2
      omega
  · rcases s with s | s
    · rw [s]; exact h.x.base
    · exact (h.x.own.lt k s).1
theorem WW.put {w W W' : World} {bw xb : Nat} {u y : Value} {M M2 m : List UInt8} (h : WW w W bw xb u y M M2) (hp : PutIs W w.heap.size bw u M m W') : ∃ u', WW w W' bw xb u' y (M ++ m) M2 := by
  obtain ⟨u', h1, h2, h3⟩ := hp
  refine ⟨u', h1, h.x.off h2 (fun s => ?_) (fun k hk s => ?_), fun k hk e => ?_, h.below.trans (h2.below h.below.size (fun k s => ?_))⟩
  · rcases s with s | s
    · subst s
      exact types_apart h.a.obj h.x.obj (by decide)
    · exact row_no h.a.own h.x.obj (by decide) s
  · rcases s with s | s
    · subst s
      exact row_no h.x.own h.a.obj (by decide) hk
    · exact h.ap k s hk
  · rcases h3 k hk with s | s
    · exact h.ap k s e
    · have := (h.x.own.lt k e).2
      omega
  · rcases s with s | s
    · rw [s]; exact h.a.base
    · exact (h.a.own.lt k s).1
theorem WW.set {w W : World} {bw xb fb : Nat} {u y : Value} {M M2 : List UInt8} {cs : Array Value} {fr : Nat × Nat} (h : WW w W bw xb u y M M2) (hf : W.heap[fb]? = some (.cells cs 37 fr)) (hw : w.heap.size ≤ fb) (j : Nat) (z : Value) : WW w (W.setCell ⟨fb, j, none⟩ z) bw xb u y M M2 := by
  have hk : Off (fun k => k = fb) W (W.setCell ⟨fb, j, none⟩ z) := Off.set (fun k => k = fb) W ⟨fb, j, none⟩ z rfl
  exact ⟨h.a.off hk (fun e => by subst e; exact types_apart h.a.obj hf (by decide)) (fun k hk' e => by subst e; exact row_no h.a.own hf (by decide) hk'), h.x.off hk (fun e => by subst e; exact types_apart h.x.obj hf (by decide)) (fun k hk' e => by subst e; exact row_no h.x.own hf (by decide) hk'), h.ap, h.below.trans (hk.below h.below.size (fun k e => by subst e; exact hw))⟩
theorem fb_ref {w W W' : World} {bw xb fb : Nat} {u y : Value} {M M2 m : List UInt8} {c : Int} {s : Value} (hf : Fb W fb c s) (h : WW w W bw xb u y M M2) (hp : RfPut W w.heap.size xb y M2 m W') : Fb W' fb c s := by
  obtain ⟨_, _, h2, _⟩ := hp
  exact (h2.block fb (lt_heap hf) (fun e => by
    rcases e with e | e
    · subst e
      exact types_apart h.x.obj hf (by decide)
    · exact row_no h.x.own hf (by decide) e)).trans hf
theorem fb_put {w W W' : World} {bw xb fb : Nat} {u y : Value} {M M2 m : List UInt8} {c : Int} {s : Value} (hf : Fb W fb c s) (h : WW w W bw xb u y M M2) (hp : PutIs W w.heap.size bw u M m W') : Fb W' fb c s := by
  obtain ⟨_, _, h2, _⟩ := hp
  exact (h2.block fb (lt_heap hf) (fun e => by
    rcases e with e | e
    · subst e
      exact types_apart h.a.obj hf (by decide)
    · exact row_no h.a.own hf (by decide) e)).trans hf
theorem fb_on {W W' : World} {fb : Nat} {c : Int} {s : Value} (hf : Fb W fb c s) (hb : Below W.heap.size W W') : Fb W' fb c s := keep_on hb hf
/-- both stores into it. -/
theorem fb_set {w W : World} {bw xb fb : Nat} {u y : Value} {M M2 : List UInt8} {c c' : Int} {s s' : Value} (hf : Fb W fb c s) (h : WW w W bw xb u y M M2) (hw : w.heap.size ≤ fb) :
    Fb ((W.setCell ⟨fb, 0, none⟩ (.int .i64 c')).setCell ⟨fb, 1, none⟩ s') fb c' s' ∧ WW w ((W.setCell ⟨fb, 0, none⟩ (.int .i64 c')).setCell ⟨fb, 1, none⟩ s') bw xb u y M M2 := by
  have h1 := heap_set W fb 0 _ _ _ (.int .i64 c') hf
  have h2 := heap_set _ fb 1 _ _ _ s' h1
  exact ⟨by unfold Fb; rw [h2]; rfl, (h.set hf hw 0 _).set h1 hw 1 _⟩

/-- What stands while fields are written by both. -/
def BothInv (w : World) (bw xb : Nat) (l : List OpV) (i : Nat) (wr : World) : Prop :=
  ∃ (u y : Value) (M : List UInt8), M.length ≤ 6 * i + fewSum (l.take i) ∧ WW w wr bw xb u y M M

set_option maxRecDepth 100000 in
set_option maxHeartbeats 8000000 in
theorem writes_any (v : Value) (l : List OpV) (w : World) (hs : OpsAt w v l) (hg : ErrT w) :
    Calls Tryd.prog 4 #[v] w fun e w' => e = .returned (.bool true) ∧ Below w.heap.size w w' := by
  have HG := Lib.hid hg
  have HS := Lib.hid hs
  obtain ⟨ao, cap, rfl, _⟩ := hs
  clear hg
  go_enter Tryd.func4, Tryd.ntmps4
  go_wp2_with fail
  refine (first_any w HG.out).mono ?_
  rintro e w1 ⟨rfl, hb⟩
  have HB1 := Lib.hid hb
  clear hb
  go_wp2_with fail
  refine (new_writer w1).mono ?_
  rintro e w2 ⟨rfl, hw2⟩
  have HB2 : Hid (Below w.heap.size w w2) := Lib.hid (by rw [hw2]; exact HB1.out.trans ((below_new w1 (.cells #[.slice none 0 0] 83)).mono HB1.out.size))
  have HW2 : Hid (WrAt w2 w.heap.size w1.heap.size noRow []) := Lib.hid (by rw [hw2]; exact ⟨HB1.out.size, (wrAt_new w1).obj, World.ownsRow_nil _ _ _ _⟩)
  clear hw2
  go_wp2_with fail
  refine (few_any _ l w2 (HS.out.on HB2.out)).mono ?_
  rintro e w3 ⟨rfl, rfl⟩
  cases hfew : fewB l with
  | false =>
    clear hfew
    go_wp2_with fail
    refine (first_any w2 (HG.out.up HB2.out)).mono ?_
    rintro e w3 ⟨rfl, hb⟩
    have HB3 := Lib.hid (HB2.out.trans (hb.mono HB2.out.size))
    clear hb
    go_wp2
    go_ret
    exact ⟨rfl, HB3.out⟩
  | true =>
    obtain ⟨hl1, hl2⟩ := few_bound hfew
    have HSM : Hid (fewSum l ≤ 20000) := Lib.hid hl2
    have HBB : Hid (∀ o ∈ l, o.b.length ≤ 20000) := Lib.hid (fun o ho => by have := fewSum_mem ho; omega)
    have HST : Hid (WW w (w2.alloc (.cells #[.slice none 0 0] 58)) w1.heap.size w2.heap.size noRow noRow [] []) := Lib.hid ⟨HW2.out.on (below_new _ _), ⟨HB2.out.size, heap_alloc_new w2 _, World.ownsRow_nil _ _ _ _⟩, (fun k hk => by cases hk), HB2.out.trans ((below_new _ _).mono HB2.out.size)⟩
    clear hfew hl2
    go_wp2
    generalize w2.heap.size = xb at *
    generalize w2.alloc (.cells #[.slice none 0 0] 58) = w4 at *
    go_loopg [5] l.length (fun q s5 wr => ∃ i : Nat, i ≤ l.length ∧ q = l.length - i ∧ s5 = .int .i64 i ∧ Hid (BothInv w w1.heap.size xb l i wr))
    case atStart => exact ⟨0, Nat.zero_le _, rfl, rfl, Lib.hid ⟨_, _, _, by simp, HST.out⟩⟩
    case round =>
      obtain ⟨i, hi, rfl, rfl, hinv⟩ := hrel
      obtain ⟨u, y, M, hM, hW⟩ := hinv.out
      obtain ⟨wo, hwo⟩ : ∃ x, x = wr := ⟨_, rfl⟩
      subst hwo
      have HML : Hid (M.length ≤ 26000) := Lib.hid (by
        have h3 : fewSum (l.take i) ≤ fewSum l := by
          have := fewSum_append (l.take i) (l.drop i)
          rw [List.take_append_drop] at this
          omega
        have := HSM.out
        omega)
      by_cases hlt : i < l.length
      · obtain ⟨bb, off, hao, hcell, hby⟩ := HS.out.at i hlt
        cases hao
        have hbl := HBB.out l[i] (List.getElem_mem _)
        have hfs := fewSum_take_succ l i hlt
        have hMs : Hid (∀ o : OpV, l[i] = o → opFits o → (M ++ opEnc o).length ≤ 6 * (i + 1) + fewSum (l.take (i + 1))) := Lib.hid (fun o e hf => by
          subst e
          have := opEnc_length l[i] hf hbl
          rw [List.length_append, hfs]
          omega)
        have hMb : Hid (M.length ≤ 6 * (i + 1) + fewSum (l.take (i + 1))) := Lib.hid (by rw [hfs]; omega)
        generalize hO : l[i] = o at hcell hby hbl
        have HO := Lib.hid hO
        obtain ⟨kind, n, x, bv, bs⟩ := o
        have HBy := Lib.hid hby
        have HBL : Hid (bs.length ≤ 20000) := Lib.hid hbl
        obtain ⟨ax, cx, hbv, _⟩ := id hby
        simp only at hbv
        subst hbv
        have HC := Lib.hid hcell
        have hba : Below wo.heap.size wo (wo.alloc (.cells #[.int .i64 0, .slice none 0 0] 37)) := below_new _ _
        have HWA := Lib.hid (hW.on hba)
        have HFA : Hid (Fb (wo.alloc (.cells #[.int .i64 0, .slice none 0 0] 37)) wo.heap.size 0 (.slice none 0 0)) := Lib.hid (heap_alloc_new wo _)
        have hfw : w.heap.size ≤ wo.heap.size := hW.below.size
        obtain ⟨c0, c1, c2, c3⟩ := hcell.on HWA.out.below
        simp only at c0 c1 c2 c3
        obtain ⟨f0, f1, f2, f3⟩ := cell2 HFA.out
        have hi0 : (0 : Int) ≤ (i : Int) := by omega
        have hil : (i : Int) < (l.length : Int) := by omega
        clear hinv hW hcell hby hO hM hba hbl hfs
        by_cases hk0 : kind = 0
        · subst hk0
          by_cases hf : UFits n x
          · obtain ⟨m, hmn⟩ : ∃ m : Nat, n = (m : Int) := ⟨n.toNat, by have := hf.1; omega⟩
            subst hmn
            have HF := Lib.hid hf
            have HOF : Hid (opFits ⟨0, m, x, .slice ax bs.length cx, bs⟩) := Lib.hid (.inl ⟨rfl, hf⟩)
            clear hf
            go_wp2
            generalize wo.alloc (.cells #[.int .i64 0, .slice none 0 0] 37) = wa at *
            go_region_law ((go_simp; go_at_call 30; refine (rfu_ok _ _ _ _ m x _ (HWA.out.on (below_drew wa 1)).x (by have := HML.out; omega) HF.out).mono ?_; rintro e w5 ⟨rfl, hp⟩; obtain ⟨y2, h5⟩ := (HWA.out.on (below_drew wa 1)).ref hp; have H5 := Lib.hid h5; have HF5 := Lib.hid (fb_ref (fb_on HFA.out (below_drew wa 1)) (HWA.out.on (below_drew wa 1)) hp); obtain ⟨k0, k1, k2, k3⟩ := cell2 HF5.out; clear hp h5; simp only []))
            all_goals
              obtain ⟨hF6, h6⟩ := fb_set (c' := 0) (s' := .slice none 0 0) HF5.out H5.out hfw
              have HF6 := Lib.hid hF6
              have H6 := Lib.hid h6
              clear hF6 h6 k0 k1 k2 k3 f0 f1 f2 f3 c0 c1 c2 c3
              generalize ((w5.setCell ⟨wo.heap.size, 0, none⟩ (.int .i64 0)).setCell ⟨wo.heap.size, 1, none⟩ (.slice none 0 0)) = w6 at *
              obtain ⟨d0, d1, d2, d3⟩ := HC.out.on H6.out.below
              simp only at d0 d1 d2 d3
              obtain ⟨k0, k1, k2, k3⟩ := cell2 HF6.out
              go_wp2
              go_region_law (first
                | (go_simp; go_at_call 33; refine (put_ok _ _ _ _ ⟨0, m, x, .slice ax bs.length cx, bs⟩ _ (H6.out.on (below_drew w6 1)).a (by have := HML.out; have := HBL.out; simp only []; omega) (HBy.out.on (H6.out.on (below_drew w6 1)).below) HOF.out).mono ?_; rintro e w7 ⟨rfl, hp⟩; obtain ⟨u2, h7⟩ := (H6.out.on (below_drew w6 1)).put hp; have H7 := Lib.hid h7; have HF7 := Lib.hid (fb_put (fb_on HF6.out (below_drew w6 1)) (H6.out.on (below_drew w6 1)) hp); obtain ⟨j0, j1, j2, j3⟩ := cell2 HF7.out; clear hp h7; simp only [])
                | (go_simp; go_at_call 24; refine (same_none _ (HG.out.up H7.out.below)).mono ?_; rintro e w8 ⟨rfl, hb8⟩; have H8 := Lib.hid (H7.out.on hb8); clear hb8; simp only []))
              all_goals
                have HI : Hid (BothInv w w1.heap.size xb l (i + 1) w8) := Lib.hid ⟨_, _, _, hMs.out _ HO.out HOF.out, (by rw [enc0 _ rfl]; exact H8.out)⟩
                clear d0 d1 d2 d3 k0 k1 k2 k3 j0 j1 j2 j3
                go_wp2
                go_roundg (l.length - (i + 1))
                case measure => omega
                case rel => exact ⟨i + 1, by omega, rfl, by go_num, HI⟩
          · have HF := Lib.hid hf
            have HOF : Hid (¬ opFits ⟨0, n, x, .slice ax bs.length cx, bs⟩) := Lib.hid (fun h => by
              rcases h with ⟨h, hh⟩ | ⟨h, hh⟩ | ⟨h, hh⟩ | ⟨h0, h1, h2⟩
              · simp at h; exact HF.out hh
              · simp at h
              · simp at h
              · simp at h0)
            clear hf
            go_wp2
            generalize wo.alloc (.cells #[.int .i64 0, .slice none 0 0] 37) = wa at *
            go_region_law ((go_simp; go_at_call 30; refine (rfu_bad _ _ _ _ n x _ (HWA.out.on (below_drew wa 1)).x HF.out).mono ?_; rintro e w5 ⟨gs, rfl, hst, hb5⟩; have H5 := Lib.hid ((HWA.out.on (below_drew wa 1)).on hb5); have HF5 := Lib.hid (fb_on (fb_on HFA.out (below_drew wa 1)) hb5); have HST5 := Lib.hid hst; obtain ⟨k0, k1, k2, k3⟩ := cell2 HF5.out; clear hst hb5; simp only []))
            all_goals
              obtain ⟨hF6, h6⟩ := fb_set (c' := 1) (s' := .slice (some ⟨gs, 0, none⟩) 1 1) HF5.out H5.out hfw
              have HF6 := Lib.hid hF6
              have H6 := Lib.hid h6
              have HS6 := Lib.hid (stepsOwn_set (j := 1) (u := .slice (some ⟨gs, 0, none⟩) 1 1) (n := 1) (stepsOwn_set (j := 0) (u := .int .i64 1) HST5.out k0) (World.cell?_setCell_same _ _ _ k0))
              clear hF6 h6 k0 k1 k2 k3 f0 f1 f2 f3 c0 c1 c2 c3
              generalize ((w5.setCell ⟨wo.heap.size, 0, none⟩ (.int .i64 1)).setCell ⟨wo.heap.size, 1, none⟩ (.slice (some ⟨gs, 0, none⟩) 1 1)) = w6 at *
              obtain ⟨d0, d1, d2, d3⟩ := HC.out.on H6.out.below
              simp only at d0 d1 d2 d3
              obtain ⟨k0, k1, k2, k3⟩ := cell2 HF6.out
              go_wp2
              go_region_law (first
                | (go_simp; go_at_call 33; refine (put_bad _ _ _ _ ⟨0, n, x, .slice ax bs.length cx, bs⟩ _ (H6.out.on (below_drew w6 1)).a (HBy.out.on (H6.out.on (below_drew w6 1)).below) HOF.out).mono ?_; rintro e w7 ⟨yy, rfl, hyy, hb7⟩; have HYY := Lib.hid hyy; obtain ⟨_, _, rfl, _⟩ := id hyy; have H7 := Lib.hid ((H6.out.on (below_drew w6 1)).on hb7); have HF7 := Lib.hid (fb_on (fb_on HF6.out (below_drew w6 1)) hb7); have HS7 := Lib.hid ((HS6.out.on (below_drew w6 1)).on hb7); obtain ⟨j0, j1, j2, j3⟩ := cell2 HF7.out; clear hyy hb7; simp only [])
                | (go_simp; go_at_call 24; refine (same_some 1 (by decide) _ _ [(sWire, (M.length : Int))] _ (HG.out.up H7.out.below) HYY.out HS7.out (by simp)).mono ?_; rintro e w8 ⟨rfl, hb8⟩; have H8 := Lib.hid (H7.out.on hb8); clear hb8; simp only []))
              all_goals
                have HI : Hid (BothInv w w1.heap.size xb l (i + 1) w8) := Lib.hid ⟨_, _, _, hMb.out, H8.out⟩
                clear d0 d1 d2 d3 k0 k1 k2 k3 j0 j1 j2 j3
                go_wp2
                go_roundg (l.length - (i + 1))
                case measure => omega
                case rel => exact ⟨i + 1, by omega, rfl, by go_num, HI⟩
        · by_cases hk1 : kind = 1
          · subst hk1
            clear hk0
            by_cases hf : SFits n x
            · obtain ⟨m, hmn⟩ : ∃ m : Nat, n = (m : Int) := ⟨n.toNat, by have := hf.1; omega⟩
              subst hmn
              have HF := Lib.hid hf
              have HOF : Hid (opFits ⟨1, m, x, .slice ax bs.length cx, bs⟩) := Lib.hid (.inr (.inl ⟨rfl, hf⟩))
              clear hf
              go_wp2
              generalize wo.alloc (.cells #[.int .i64 0, .slice none 0 0] 37) = wa at *
              go_region_law ((go_simp; go_at_call 31; refine (rfi_ok _ _ _ _ m x _ (HWA.out.on (below_drew wa 1)).x (by have := HML.out; omega) HF.out).mono ?_; rintro e w5 ⟨rfl, hp⟩; obtain ⟨y2, h5⟩ := (HWA.out.on (below_drew wa 1)).ref hp; have H5 := Lib.hid h5; have HF5 := Lib.hid (fb_ref (fb_on HFA.out (below_drew wa 1)) (HWA.out.on (below_drew wa 1)) hp); obtain ⟨k0, k1, k2, k3⟩ := cell2 HF5.out; clear hp h5; simp only []))
              all_goals
                obtain ⟨hF6, h6⟩ := fb_set (c' := 0) (s' := .slice none 0 0) HF5.out H5.out hfw
                have HF6 := Lib.hid hF6
                have H6 := Lib.hid h6
                clear hF6 h6 k0 k1 k2 k3 f0 f1 f2 f3 c0 c1 c2 c3
                generalize ((w5.setCell ⟨wo.heap.size, 0, none⟩ (.int .i64 0)).setCell ⟨wo.heap.size, 1, none⟩ (.slice none 0 0)) = w6 at *
                obtain ⟨d0, d1, d2, d3⟩ := HC.out.on H6.out.below
                simp only at d0 d1 d2 d3
                obtain ⟨k0, k1, k2, k3⟩ := cell2 HF6.out
                go_wp2
                go_region_law (first
                  | (go_simp; go_at_call 33; refine (put_ok _ _ _ _ ⟨1, m, x, .slice ax bs.length cx, bs⟩ _ (H6.out.on (below_drew w6 1)).a (by have := HML.out; have := HBL.out; simp only []; omega) (HBy.out.on (H6.out.on (below_drew w6 1)).below) HOF.out).mono ?_; rintro e w7 ⟨rfl, hp⟩; obtain ⟨u2, h7⟩ := (H6.out.on (below_drew w6 1)).put hp; have H7 := Lib.hid h7; have HF7 := Lib.hid (fb_put (fb_on HF6.out (below_drew w6 1)) (H6.out.on (below_drew w6 1)) hp); obtain ⟨j0, j1, j2, j3⟩ := cell2 HF7.out; clear hp h7; simp only [])
                  | (go_simp; go_at_call 24; refine (same_none _ (HG.out.up H7.out.below)).mono ?_; rintro e w8 ⟨rfl, hb8⟩; have H8 := Lib.hid (H7.out.on hb8); clear hb8; simp only []))
                all_goals
                  have HI : Hid (BothInv w w1.heap.size xb l (i + 1) w8) := Lib.hid ⟨_, _, _, hMs.out _ HO.out HOF.out, (by rw [enc1 _ rfl]; exact H8.out)⟩
                  clear d0 d1 d2 d3 k0 k1 k2 k3 j0 j1 j2 j3
                  go_wp2
                  go_roundg (l.length - (i + 1))
                  case measure => omega
                  case rel => exact ⟨i + 1, by omega, rfl, by go_num, HI⟩
            · have HF := Lib.hid hf
              have HOF : Hid (¬ opFits ⟨1, n, x, .slice ax bs.length cx, bs⟩) := Lib.hid (fun h => by
                rcases h with ⟨h, hh⟩ | ⟨h, hh⟩ | ⟨h, hh⟩ | ⟨h0, h1, h2⟩
                · simp at h
                · simp at h; exact HF.out hh
                · simp at h
                · simp at h1)
              clear hf
              go_wp2
              generalize wo.alloc (.cells #[.int .i64 0, .slice none 0 0] 37) = wa at *
              go_region_law ((go_simp; go_at_call 31; refine (rfi_bad _ _ _ _ n x _ (HWA.out.on (below_drew wa 1)).x HF.out).mono ?_; rintro e w5 ⟨gs, rfl, hst, hb5⟩; have H5 := Lib.hid ((HWA.out.on (below_drew wa 1)).on hb5); have HF5 := Lib.hid (fb_on (fb_on HFA.out (below_drew wa 1)) hb5); have HST5 := Lib.hid hst; obtain ⟨k0, k1, k2, k3⟩ := cell2 HF5.out; clear hst hb5; simp only []))
              all_goals
                obtain ⟨hF6, h6⟩ := fb_set (c' := 1) (s' := .slice (some ⟨gs, 0, none⟩) 1 1) HF5.out H5.out hfw
                have HF6 := Lib.hid hF6
                have H6 := Lib.hid h6
                have HS6 := Lib.hid (stepsOwn_set (j := 1) (u := .slice (some ⟨gs, 0, none⟩) 1 1) (n := 1) (stepsOwn_set (j := 0) (u := .int .i64 1) HST5.out k0) (World.cell?_setCell_same _ _ _ k0))
                clear hF6 h6 k0 k1 k2 k3 f0 f1 f2 f3 c0 c1 c2 c3
                generalize ((w5.setCell ⟨wo.heap.size, 0, none⟩ (.int .i64 1)).setCell ⟨wo.heap.size, 1, none⟩ (.slice (some ⟨gs, 0, none⟩) 1 1)) = w6 at *
                obtain ⟨d0, d1, d2, d3⟩ := HC.out.on H6.out.below
                simp only at d0 d1 d2 d3
                obtain ⟨k0, k1, k2, k3⟩ := cell2 HF6.out
                go_wp2
                go_region_law (first
                  | (go_simp; go_at_call 33; refine (put_bad _ _ _ _ ⟨1, n, x, .slice ax bs.length cx, bs⟩ _ (H6.out.on (below_drew w6 1)).a (HBy.out.on (H6.out.on (below_drew w6 1)).below) HOF.out).mono ?_; rintro e w7 ⟨yy, rfl, hyy, hb7⟩; have HYY := Lib.hid hyy; obtain ⟨_, _, rfl, _⟩ := id hyy; have H7 := Lib.hid ((H6.out.on (below_drew w6 1)).on hb7); have HF7 := Lib.hid (fb_on (fb_on HF6.out (below_drew w6 1)) hb7); have HS7 := Lib.hid ((HS6.out.on (below_drew w6 1)).on hb7); obtain ⟨j0, j1, j2, j3⟩ := cell2 HF7.out; clear hyy hb7; simp only [])
                  | (go_simp; go_at_call 24; refine (same_some 1 (by decide) _ _ [(sWire, (M.length : Int))] _ (HG.out.up H7.out.below) HYY.out HS7.out (by simp)).mono ?_; rintro e w8 ⟨rfl, hb8⟩; have H8 := Lib.hid (H7.out.on hb8); clear hb8; simp only []))
                all_goals
                  have HI : Hid (BothInv w w1.heap.size xb l (i + 1) w8) := Lib.hid ⟨_, _, _, hMb.out, H8.out⟩
                  clear d0 d1 d2 d3 k0 k1 k2 k3 j0 j1 j2 j3
                  go_wp2
                  go_roundg (l.length - (i + 1))
                  case measure => omega
                  case rel => exact ⟨i + 1, by omega, rfl, by go_num, HI⟩
          · by_cases hk2 : kind = 2
            · subst hk2
              clear hk0 hk1
              by_cases hf : UFits n x
              · obtain ⟨m, hmn⟩ : ∃ m : Nat, n = (m : Int) := ⟨n.toNat, by have := hf.1; omega⟩
                subst hmn
                have HF := Lib.hid hf
                have HOF : Hid (opFits ⟨2, m, x, .slice ax bs.length cx, bs⟩) := Lib.hid (.inr (.inr (.inl ⟨rfl, hf⟩)))
                clear hf
                go_wp2
                generalize wo.alloc (.cells #[.int .i64 0, .slice none 0 0] 37) = wa at *
                go_region_law ((go_simp; go_at_call 32; refine (rfb_ok _ _ _ _ m x _ (HWA.out.on (below_drew wa 1)).x (by have := HML.out; omega) HF.out).mono ?_; rintro e w5 ⟨rfl, hp⟩; obtain ⟨y2, h5⟩ := (HWA.out.on (below_drew wa 1)).ref hp; have H5 := Lib.hid h5; have HF5 := Lib.hid (fb_ref (fb_on HFA.out (below_drew wa 1)) (HWA.out.on (below_drew wa 1)) hp); obtain ⟨k0, k1, k2, k3⟩ := cell2 HF5.out; clear hp h5; simp only []))
                all_goals
                  obtain ⟨hF6, h6⟩ := fb_set (c' := 0) (s' := .slice none 0 0) HF5.out H5.out hfw
                  have HF6 := Lib.hid hF6
                  have H6 := Lib.hid h6
                  clear hF6 h6 k0 k1 k2 k3 f0 f1 f2 f3 c0 c1 c2 c3
                  generalize ((w5.setCell ⟨wo.heap.size, 0, none⟩ (.int .i64 0)).setCell ⟨wo.heap.size, 1, none⟩ (.slice none 0 0)) = w6 at *
                  obtain ⟨d0, d1, d2, d3⟩ := HC.out.on H6.out.below
                  simp only at d0 d1 d2 d3
                  obtain ⟨k0, k1, k2, k3⟩ := cell2 HF6.out
                  go_wp2
                  go_region_law (first
                    | (go_simp; go_at_call 33; refine (put_ok _ _ _ _ ⟨2, m, x, .slice ax bs.length cx, bs⟩ _ (H6.out.on (below_drew w6 1)).a (by have := HML.out; have := HBL.out; simp only []; omega) (HBy.out.on (H6.out.on (below_drew w6 1)).below) HOF.out).mono ?_; rintro e w7 ⟨rfl, hp⟩; obtain ⟨u2, h7⟩ := (H6.out.on (below_drew w6 1)).put hp; have H7 := Lib.hid h7; have HF7 := Lib.hid (fb_put (fb_on HF6.out (below_drew w6 1)) (H6.out.on (below_drew w6 1)) hp); obtain ⟨j0, j1, j2, j3⟩ := cell2 HF7.out; clear hp h7; simp only [])
                    | (go_simp; go_at_call 24; refine (same_none _ (HG.out.up H7.out.below)).mono ?_; rintro e w8 ⟨rfl, hb8⟩; have H8 := Lib.hid (H7.out.on hb8); clear hb8; simp only []))
                  all_goals
                    have HI : Hid (BothInv w w1.heap.size xb l (i + 1) w8) := Lib.hid ⟨_, _, _, hMs.out _ HO.out HOF.out, (by rw [enc2 _ rfl]; exact H8.out)⟩
                    clear d0 d1 d2 d3 k0 k1 k2 k3 j0 j1 j2 j3
                    go_wp2
                    go_roundg (l.length - (i + 1))
                    case measure => omega
                    case rel => exact ⟨i + 1, by omega, rfl, by go_num, HI⟩
              · have HF := Lib.hid hf
                have HOF : Hid (¬ opFits ⟨2, n, x, .slice ax bs.length cx, bs⟩) := Lib.hid (fun h => by
                  rcases h with ⟨h, hh⟩ | ⟨h, hh⟩ | ⟨h, hh⟩ | ⟨h0, h1, h2⟩
                  · simp at h
                  · simp at h
                  · simp at h; exact HF.out hh
                  · simp at h2)
                clear hf
                go_wp2
                generalize wo.alloc (.cells #[.int .i64 0, .slice none 0 0] 37) = wa at *
                go_region_law ((go_simp; go_at_call 32; refine (rfb_bad _ _ _ _ n x _ (HWA.out.on (below_drew wa 1)).x HF.out).mono ?_; rintro e w5 ⟨gs, rfl, hst, hb5⟩; have H5 := Lib.hid ((HWA.out.on (below_drew wa 1)).on hb5); have HF5 := Lib.hid (fb_on (fb_on HFA.out (below_drew wa 1)) hb5); have HST5 := Lib.hid hst; obtain ⟨k0, k1, k2, k3⟩ := cell2 HF5.out; clear hst hb5; simp only []))
                all_goals
                  obtain ⟨hF6, h6⟩ := fb_set (c' := 1) (s' := .slice (some ⟨gs, 0, none⟩) 1 1) HF5.out H5.out hfw
                  have HF6 := Lib.hid hF6
                  have H6 := Lib.hid h6
                  have HS6 := Lib.hid (stepsOwn_set (j := 1) (u := .slice (some ⟨gs, 0, none⟩) 1 1) (n := 1) (stepsOwn_set (j := 0) (u := .int .i64 1) HST5.out k0) (World.cell?_setCell_same _ _ _ k0))
                  clear hF6 h6 k0 k1 k2 k3 f0 f1 f2 f3 c0 c1 c2 c3
                  generalize ((w5.setCell ⟨wo.heap.size, 0, none⟩ (.int .i64 1)).setCell ⟨wo.heap.size, 1, none⟩ (.slice (some ⟨gs, 0, none⟩) 1 1)) = w6 at *
                  obtain ⟨d0, d1, d2, d3⟩ := HC.out.on H6.out.below
                  simp only at d0 d1 d2 d3
                  obtain ⟨k0, k1, k2, k3⟩ := cell2 HF6.out
                  go_wp2
                  go_region_law (first
                    | (go_simp; go_at_call 33; refine (put_bad _ _ _ _ ⟨2, n, x, .slice ax bs.length cx, bs⟩ _ (H6.out.on (below_drew w6 1)).a (HBy.out.on (H6.out.on (below_drew w6 1)).below) HOF.out).mono ?_; rintro e w7 ⟨yy, rfl, hyy, hb7⟩; have HYY := Lib.hid hyy; obtain ⟨_, _, rfl, _⟩ := id hyy; have H7 := Lib.hid ((H6.out.on (below_drew w6 1)).on hb7); have HF7 := Lib.hid (fb_on (fb_on HF6.out (below_drew w6 1)) hb7); have HS7 := Lib.hid ((HS6.out.on (below_drew w6 1)).on hb7); obtain ⟨j0, j1, j2, j3⟩ := cell2 HF7.out; clear hyy hb7; simp only [])
                    | (go_simp; go_at_call 24; refine (same_some 1 (by decide) _ _ [(sWire, (M.length : Int))] _ (HG.out.up H7.out.below) HYY.out HS7.out (by simp)).mono ?_; rintro e w8 ⟨rfl, hb8⟩; have H8 := Lib.hid (H7.out.on hb8); clear hb8; simp only []))
                  all_goals
                    have HI : Hid (BothInv w w1.heap.size xb l (i + 1) w8) := Lib.hid ⟨_, _, _, hMb.out, H8.out⟩
                    clear d0 d1 d2 d3 k0 k1 k2 k3 j0 j1 j2 j3
                    go_wp2
                    go_roundg (l.length - (i + 1))
                    case measure => omega
                    case rel => exact ⟨i + 1, by omega, rfl, by go_num, HI⟩
            · have HQ := Lib.hid (And.intro hk0 (And.intro hk1 hk2))
              have HOF : Hid (opFits ⟨kind, n, x, .slice ax bs.length cx, bs⟩) := Lib.hid (.inr (.inr (.inr HQ.out)))
              have q0 : (kind == 0) = false := by simpa using hk0
              have q1 : (kind == 1) = false := by simpa using hk1
              have q2 : (kind == 2) = false := by simpa using hk2
              obtain ⟨ay, cy, hye⟩ := HWA.out.x.bytes
              subst hye
              obtain ⟨z0, z1⟩ := cell1 HWA.out.x.obj
              have hcy := row_cap HWA.out.x.own
              clear hk0 hk1 hk2
              by_cases hbn : bs = []
              · subst hbn
                have HAP : Hid (∀ W : World, Below (wo.alloc (.cells #[.int .i64 0, .slice none 0 0] 37)).heap.size (wo.alloc (.cells #[.int .i64 0, .slice none 0 0] 37)) W → RfPut W w.heap.size xb (.slice ay M.length cy) M [] (W.setCell ⟨xb, 0, none⟩ (.slice ay M.length cy))) := Lib.hid (fun W hW => (HWA.out.on hW).x.put ⟨_, rfl, by rw [List.append_nil]; exact (HWA.out.on hW).x.own, Off.refl _ _, fun k hk => .inl hk⟩)
                rw [List.length_nil] at c3
                rw [List.length_nil] at HC HBy HOF
                cases ax with
                | none =>
                  cases ay with
                  | none =>
                    go_wp2
                    generalize wo.alloc (.cells #[.int .i64 0, .slice none 0 0] 37) = wa at *
                    go_region_law (fail)
                    all_goals
                      have hp := HAP.out (wa.drewN 1) (below_drew wa 1)
                      obtain ⟨y2, h6⟩ := (HWA.out.on (below_drew wa 1)).ref hp
                      have HF6 : Hid (Fb ((wa.setCell ⟨xb, 0, none⟩ (.slice none M.length cy)).drew) wo.heap.size 0 (.slice none 0 0)) := Lib.hid (fb_ref (fb_on HFA.out (below_drew wa 1)) (HWA.out.on (below_drew wa 1)) hp)
                      have H6 : Hid (WW w ((wa.setCell ⟨xb, 0, none⟩ (.slice none M.length cy)).drew) w1.heap.size xb u y2 M (M ++ [])) := Lib.hid h6
                      clear hp h6 z0 z1 f0 f1 f2 f3 c0 c1 c2 c3
                      generalize (wa.setCell ⟨xb, 0, none⟩ (.slice none M.length cy)).drew = w6 at *
                      obtain ⟨d0, d1, d2, d3⟩ := HC.out.on H6.out.below
                      simp only at d0 d1 d2 d3
                      obtain ⟨k0, k1, k2, k3⟩ := cell2 HF6.out
                      go_wp2
                      go_region_law (first
                        | (go_simp; go_at_call 33; refine (put_ok _ _ _ _ ⟨kind, n, x, .slice none 0 cx, []⟩ _ (H6.out.on (below_drew w6 1)).a (by have := HML.out; simp only [List.length_nil]; omega) (HBy.out.on (H6.out.on (below_drew w6 1)).below) HOF.out).mono ?_; rintro e w7 ⟨rfl, hp⟩; obtain ⟨u2, h7⟩ := (H6.out.on (below_drew w6 1)).put hp; have H7 := Lib.hid h7; have HF7 := Lib.hid (fb_put (fb_on HF6.out (below_drew w6 1)) (H6.out.on (below_drew w6 1)) hp); obtain ⟨j0, j1, j2, j3⟩ := cell2 HF7.out; clear hp h7; simp only [])
                        | (go_simp; go_at_call 24; refine (same_none _ (HG.out.up H7.out.below)).mono ?_; rintro e w8 ⟨rfl, hb8⟩; have H8 := Lib.hid (H7.out.on hb8); clear hb8; simp only []))
                      all_goals
                        have HI : Hid (BothInv w w1.heap.size xb l (i + 1) w8) := Lib.hid (by
                          have h1 := hMs.out _ HO.out HOF.out
                          have h8 := H8.out
                          rw [enc3 _ HQ.out.1 HQ.out.2.1 HQ.out.2.2] at h1 h8
                          exact ⟨_, _, _, h1, h8⟩)
                        clear d0 d1 d2 d3 k0 k1 k2 k3 j0 j1 j2 j3
                        go_wp2
                        go_roundg (l.length - (i + 1))
                        case measure => omega
                        case rel => exact ⟨i + 1, by omega, rfl, by go_num, HI⟩
                  | some ay0 =>
                    go_wp2
                    generalize wo.alloc (.cells #[.int .i64 0, .slice none 0 0] 37) = wa at *
                    go_region_law (fail)
                    all_goals
                      have hp := HAP.out (wa.drewN 1) (below_drew wa 1)
                      obtain ⟨y2, h6⟩ := (HWA.out.on (below_drew wa 1)).ref hp
                      have HF6 : Hid (Fb ((wa.setCell ⟨xb, 0, none⟩ (.slice (some ay0) M.length cy)).drew) wo.heap.size 0 (.slice none 0 0)) := Lib.hid (fb_ref (fb_on HFA.out (below_drew wa 1)) (HWA.out.on (below_drew wa 1)) hp)
                      have H6 : Hid (WW w ((wa.setCell ⟨xb, 0, none⟩ (.slice (some ay0) M.length cy)).drew) w1.heap.size xb u y2 M (M ++ [])) := Lib.hid h6
                      clear hp h6 z0 z1 f0 f1 f2 f3 c0 c1 c2 c3
                      generalize (wa.setCell ⟨xb, 0, none⟩ (.slice (some ay0) M.length cy)).drew = w6 at *
                      obtain ⟨d0, d1, d2, d3⟩ := HC.out.on H6.out.below
                      simp only at d0 d1 d2 d3
                      obtain ⟨k0, k1, k2, k3⟩ := cell2 HF6.out
                      go_wp2
                      go_region_law (first
                        | (go_simp; go_at_call 33; refine (put_ok _ _ _ _ ⟨kind, n, x, .slice none 0 cx, []⟩ _ (H6.out.on (below_drew w6 1)).a (by have := HML.out; simp only [List.length_nil]; omega) (HBy.out.on (H6.out.on (below_drew w6 1)).below) HOF.out).mono ?_; rintro e w7 ⟨rfl, hp⟩; obtain ⟨u2, h7⟩ := (H6.out.on (below_drew w6 1)).put hp; have H7 := Lib.hid h7; have HF7 := Lib.hid (fb_put (fb_on HF6.out (below_drew w6 1)) (H6.out.on (below_drew w6 1)) hp); obtain ⟨j0, j1, j2, j3⟩ := cell2 HF7.out; clear hp h7; simp only [])
                        | (go_simp; go_at_call 24; refine (same_none _ (HG.out.up H7.out.below)).mono ?_; rintro e w8 ⟨rfl, hb8⟩; have H8 := Lib.hid (H7.out.on hb8); clear hb8; simp only []))
                      all_goals
                        have HI : Hid (BothInv w w1.heap.size xb l (i + 1) w8) := Lib.hid (by
                          have h1 := hMs.out _ HO.out HOF.out
                          have h8 := H8.out
                          rw [enc3 _ HQ.out.1 HQ.out.2.1 HQ.out.2.2] at h1 h8
                          exact ⟨_, _, _, h1, h8⟩)
                        clear d0 d1 d2 d3 k0 k1 k2 k3 j0 j1 j2 j3
                        go_wp2
                        go_roundg (l.length - (i + 1))
                        case measure => omega
                        case rel => exact ⟨i + 1, by omega, rfl, by go_num, HI⟩
                | some ax0 =>
                  cases ay with
                  | none =>
                    go_wp2
                    generalize wo.alloc (.cells #[.int .i64 0, .slice none 0 0] 37) = wa at *
                    go_region_law (fail)
                    all_goals
                      have hp := HAP.out (wa.drewN 1) (below_drew wa 1)
                      obtain ⟨y2, h6⟩ := (HWA.out.on (below_drew wa 1)).ref hp
                      have HF6 : Hid (Fb ((wa.setCell ⟨xb, 0, none⟩ (.slice none M.length cy)).drew) wo.heap.size 0 (.slice none 0 0)) := Lib.hid (fb_ref (fb_on HFA.out (below_drew wa 1)) (HWA.out.on (below_drew wa 1)) hp)
                      have H6 : Hid (WW w ((wa.setCell ⟨xb, 0, none⟩ (.slice none M.length cy)).drew) w1.heap.size xb u y2 M (M ++ [])) := Lib.hid h6
                      clear hp h6 z0 z1 f0 f1 f2 f3 c0 c1 c2 c3
                      generalize (wa.setCell ⟨xb, 0, none⟩ (.slice none M.length cy)).drew = w6 at *
                      obtain ⟨d0, d1, d2, d3⟩ := HC.out.on H6.out.below
                      simp only at d0 d1 d2 d3
                      obtain ⟨k0, k1, k2, k3⟩ := cell2 HF6.out
                      go_wp2
                      go_region_law (first
                        | (go_simp; go_at_call 33; refine (put_ok _ _ _ _ ⟨kind, n, x, .slice (some ax0) 0 cx, []⟩ _ (H6.out.on (below_drew w6 1)).a (by have := HML.out; simp only [List.length_nil]; omega) (HBy.out.on (H6.out.on (below_drew w6 1)).below) HOF.out).mono ?_; rintro e w7 ⟨rfl, hp⟩; obtain ⟨u2, h7⟩ := (H6.out.on (below_drew w6 1)).put hp; have H7 := Lib.hid h7; have HF7 := Lib.hid (fb_put (fb_on HF6.out (below_drew w6 1)) (H6.out.on (below_drew w6 1)) hp); obtain ⟨j0, j1, j2, j3⟩ := cell2 HF7.out; clear hp h7; simp only [])
                        | (go_simp; go_at_call 24; refine (same_none _ (HG.out.up H7.out.below)).mono ?_; rintro e w8 ⟨rfl, hb8⟩; have H8 := Lib.hid (H7.out.on hb8); clear hb8; simp only []))
                      all_goals
                        have HI : Hid (BothInv w w1.heap.size xb l (i + 1) w8) := Lib.hid (by
                          have h1 := hMs.out _ HO.out HOF.out
                          have h8 := H8.out
                          rw [enc3 _ HQ.out.1 HQ.out.2.1 HQ.out.2.2] at h1 h8
                          exact ⟨_, _, _, h1, h8⟩)
                        clear d0 d1 d2 d3 k0 k1 k2 k3 j0 j1 j2 j3
                        go_wp2
                        go_roundg (l.length - (i + 1))
                        case measure => omega
                        case rel => exact ⟨i + 1, by omega, rfl, by go_num, HI⟩
                  | some ay0 =>
                    go_wp2
                    generalize wo.alloc (.cells #[.int .i64 0, .slice none 0 0] 37) = wa at *
                    go_region_law (fail)
                    all_goals
                      have hp := HAP.out (wa.drewN 1) (below_drew wa 1)
                      obtain ⟨y2, h6⟩ := (HWA.out.on (below_drew wa 1)).ref hp
                      have HF6 : Hid (Fb ((wa.setCell ⟨xb, 0, none⟩ (.slice (some ay0) M.length cy)).drew) wo.heap.size 0 (.slice none 0 0)) := Lib.hid (fb_ref (fb_on HFA.out (below_drew wa 1)) (HWA.out.on (below_drew wa 1)) hp)
                      have H6 : Hid (WW w ((wa.setCell ⟨xb, 0, none⟩ (.slice (some ay0) M.length cy)).drew) w1.heap.size xb u y2 M (M ++ [])) := Lib.hid h6
                      clear hp h6 z0 z1 f0 f1 f2 f3 c0 c1 c2 c3
                      generalize (wa.setCell ⟨xb, 0, none⟩ (.slice (some ay0) M.length cy)).drew = w6 at *
                      obtain ⟨d0, d1, d2, d3⟩ := HC.out.on H6.out.below
                      simp only at d0 d1 d2 d3
                      obtain ⟨k0, k1, k2, k3⟩ := cell2 HF6.out
                      go_wp2
                      go_region_law (first
                        | (go_simp; go_at_call 33; refine (put_ok _ _ _ _ ⟨kind, n, x, .slice (some ax0) 0 cx, []⟩ _ (H6.out.on (below_drew w6 1)).a (by have := HML.out; simp only [List.length_nil]; omega) (HBy.out.on (H6.out.on (below_drew w6 1)).below) HOF.out).mono ?_; rintro e w7 ⟨rfl, hp⟩; obtain ⟨u2, h7⟩ := (H6.out.on (below_drew w6 1)).put hp; have H7 := Lib.hid h7; have HF7 := Lib.hid (fb_put (fb_on HF6.out (below_drew w6 1)) (H6.out.on (below_drew w6 1)) hp); obtain ⟨j0, j1, j2, j3⟩ := cell2 HF7.out; clear hp h7; simp only [])
                        | (go_simp; go_at_call 24; refine (same_none _ (HG.out.up H7.out.below)).mono ?_; rintro e w8 ⟨rfl, hb8⟩; have H8 := Lib.hid (H7.out.on hb8); clear hb8; simp only []))
                      all_goals
                        have HI : Hid (BothInv w w1.heap.size xb l (i + 1) w8) := Lib.hid (by
                          have h1 := hMs.out _ HO.out HOF.out
                          have h8 := H8.out
                          rw [enc3 _ HQ.out.1 HQ.out.2.1 HQ.out.2.2] at h1 h8
                          exact ⟨_, _, _, h1, h8⟩)
                        clear d0 d1 d2 d3 k0 k1 k2 k3 j0 j1 j2 j3
                        go_wp2
                        go_roundg (l.length - (i + 1))
                        case measure => omega
                        case rel => exact ⟨i + 1, by omega, rfl, by go_num, HI⟩
              · have hbp : 0 < bs.length := List.length_pos_iff.2 hbn
                clear hbn
                obtain ⟨bq, oq, hax, _⟩ := HBy.out.at' 0 hbp
                subst hax
                have h63 : M.length + bs.length ≤ maxLen := by have := HML.out; have := HBL.out; unfold maxLen; omega
                have hby : (M.length + bs.length) * 1 ≤ 140737488355328 := by have := HML.out; have := HBL.out; omega
                have HNW : Hid (∀ j u, (bcells bs)[j]? = some u → ((wo.alloc (.cells #[.int .i64 0, .slice none 0 0] 37)).drewN 1).cell? ((⟨bq, oq, none⟩ : Addr).add j) = some u) := Lib.hid (bytesAt_news (HBy.out.on (HWA.out.on (below_drew _ 1)).below))
                obtain ⟨i0, hi00, hz0, hz1, hz2⟩ := info_parts info5
                go_wp2
                generalize wo.alloc (.cells #[.int .i64 0, .slice none 0 0] 37) = wa at *
                go_region_law ((refine step_append_lies _ (by rfl) _ _ _ (by rfl) w.heap.size 5 i0 _ 1 1 Tryd.underlying22 hi00 hz0 hz1 hz2 rfl (by omega) (.slice ay M.length cy) M.length (bcells M) (by rfl) (HWA.out.on (below_drew wa 1)).x.own ⟨bq, oq, none⟩ bs.length cx (bcells bs) (by rfl) ?_ HNW.out (bcells_one _) hbp h63 hby (HWA.out.on (below_drew wa 1)).below.size wa.heap.size rfl ?_; exact (by rw [bcells_length]; omega); intro g cp w5 hown hgrow hat hg5; obtain ⟨t0, t1⟩ := cell1 (keep_far (HWA.out.on (below_drew wa 1)).x.own hgrow (HWA.out.on (below_drew wa 1)).x.obj (by decide))))
                all_goals
                  have hp : RfPut (wa.drewN 1) w.heap.size xb (.slice ay M.length cy) M bs (w5.setCell ⟨xb, 0, none⟩ (.slice (some ⟨g, 0, none⟩) (M.length + bs.length) cp)) := (HWA.out.on (below_drew wa 1)).x.put ⟨_, rfl, by rw [List.length_append, bcells_append]; exact hown, Off.of_grown hgrow, lies_at hat⟩
                  obtain ⟨y2, h6⟩ := (HWA.out.on (below_drew wa 1)).ref hp
                  have HF6 := Lib.hid (fb_ref (fb_on HFA.out (below_drew wa 1)) (HWA.out.on (below_drew wa 1)) hp)
                  have H6 := Lib.hid h6
                  clear hp h6 hown hgrow hat hg5 t0 t1 z0 z1 f0 f1 f2 f3 c0 c1 c2 c3
                  generalize w5.setCell ⟨xb, 0, none⟩ (.slice (some ⟨g, 0, none⟩) (M.length + bs.length) cp) = w6 at *
                  obtain ⟨d0, d1, d2, d3⟩ := HC.out.on H6.out.below
                  simp only at d0 d1 d2 d3
                  obtain ⟨k0, k1, k2, k3⟩ := cell2 HF6.out
                  go_wp2
                  go_region_law (first
                    | (go_simp; go_at_call 33; refine (put_ok _ _ _ _ ⟨kind, n, x, .slice (some ⟨bq, oq, none⟩) bs.length cx, bs⟩ _ (H6.out.on (below_drew w6 1)).a (by have := HML.out; have := HBL.out; simp only []; omega) (HBy.out.on (H6.out.on (below_drew w6 1)).below) HOF.out).mono ?_; rintro e w7 ⟨rfl, hp⟩; obtain ⟨u2, h7⟩ := (H6.out.on (below_drew w6 1)).put hp; have H7 := Lib.hid h7; have HF7 := Lib.hid (fb_put (fb_on HF6.out (below_drew w6 1)) (H6.out.on (below_drew w6 1)) hp); obtain ⟨j0, j1, j2, j3⟩ := cell2 HF7.out; clear hp h7; simp only [])
                    | (go_simp; go_at_call 24; refine (same_none _ (HG.out.up H7.out.below)).mono ?_; rintro e w8 ⟨rfl, hb8⟩; have H8 := Lib.hid (H7.out.on hb8); clear hb8; simp only []))
                  all_goals
                    have HI : Hid (BothInv w w1.heap.size xb l (i + 1) w8) := Lib.hid (by
                      have h1 := hMs.out _ HO.out HOF.out
                      have h8 := H8.out
                      rw [enc3 _ HQ.out.1 HQ.out.2.1 HQ.out.2.2] at h1 h8
                      exact ⟨_, _, _, h1, h8⟩)
                    clear d0 d1 d2 d3 k0 k1 k2 k3 j0 j1 j2 j3
                    go_wp2
                    go_roundg (l.length - (i + 1))
                    case measure => omega
                    case rel => exact ⟨i + 1, by omega, rfl, by go_num, HI⟩
      · have HW := Lib.hid hW
        obtain ⟨ay, cy, hye⟩ := hW.x.bytes
        subst hye
        clear hinv hW hM
        go_wp2
        go_region_law (first
          | (go_simp; go_at_call 11; refine (first_any _ (HG.out.up (HW.out.on (below_drew wo 1)).below)).mono ?_; rintro e w5 ⟨rfl, hb⟩; have H5 := Lib.hid ((HW.out.on (below_drew wo 1)).on hb); obtain ⟨k0, _⟩ := cell1 H5.out.x.obj; clear hb; simp only [])
          | (go_simp; go_at_call 34; refine (out_any _ _ _ _ _ H5.out.a (by have := HML.out; omega)).mono ?_; rintro e w6 ⟨vo, rfl, ho, hb⟩; have HO6 := Lib.hid (bytesAt_own ho); obtain ⟨av, cv, rfl⟩ := row_form ho; have H6 := Lib.hid (H5.out.on hb); obtain ⟨j0, _⟩ := cell1 H6.out.x.obj; clear ho hb; simp only [])
          | (go_simp; go_at_call 23; refine (alike_any _ _ M M _ HO6.out (bytesAt_own H6.out.x.own)).mono ?_; rintro e w7 ⟨rfl, rfl⟩; rw [show (M == M) = true by simp]; simp only []))
        all_goals
          have HB6 := Lib.hid H6.out.below
          clear k0 j0
          go_wp2
          go_ret
          exact ⟨rfl, HB6.out⟩
end Go.Proofs.YtpdngcjgfngnjaaDoor
