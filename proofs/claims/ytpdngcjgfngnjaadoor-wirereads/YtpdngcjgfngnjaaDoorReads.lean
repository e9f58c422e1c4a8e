/- yardlaw2.WireReads answers true for every row of bytes and every list of fields; memory that was there stands. -/
import Derived.Test.YtpdngcjgfngnjaaDoorRefV
import Derived.Test.YtpdngcjgfngnjaaDoorBack
import Derived.Test.YtpdngcjgfngnjaaDoorFirst
import Derived.Deep.RegionHeld3
namespace Go.Proofs.YtpdngcjgfngnjaaDoor
open Go.RowKit Go.Extern.Stop Go.Stop Go.Extern

/-- The program's Reader and the document's, side by side, over the same bytes. -/
structure RR (w W : World) (rb xb : Nat) (rv bv : Value) (b : List UInt8) (p q : Nat) : Prop where
  a : RdAt W w.heap.size rb rv b p
  x : XrAt w W xb bv b q
theorem RR.on {w W W' : World} {rb xb : Nat} {rv bv : Value} {b : List UInt8} {p q : Nat} (h : RR w W rb xb rv bv b p q) (hb : Below W.heap.size W W') : RR w W' rb xb rv bv b p q := ⟨h.a.on hb, h.x.on hb⟩
theorem RR.below {w W : World} {rb xb : Nat} {rv bv : Value} {b : List UInt8} {p q : Nat} (h : RR w W rb xb rv bv b p q) : Below w.heap.size w W := h.x.below
theorem apart2 {w : World} {r : Nat} {cs cs' : Array Value} {t t' : TypeId} {fr fr' : Nat × Nat} (h : w.heap[r]? = some (.cells cs t fr)) (h' : w.heap[r]? = some (.cells cs' t' fr')) (ht : t ≠ t') : False := by
  rw [h] at h'
  simp only [Option.some.injEq, Obj.cells.injEq] at h'
  exact ht h'.2.1
theorem RR.ne {w W : World} {rb xb : Nat} {rv bv : Value} {b : List UInt8} {p q : Nat} (h : RR w W rb xb rv bv b p q) : rb ≠ xb := fun e => by
  subst e
  exact apart2 h.a.obj h.x.obj (by decide)
theorem RR.stepA {w W W' : World} {rb xb : Nat} {rv bv : Value} {b : List UInt8} {p q p' : Nat} (h : RR w W rb xb rv bv b p q) (h1 : RdAt W' w.heap.size rb rv b p') (hk : Off (fun k => k = rb) W W') : RR w W' rb xb rv bv b p' q :=
  ⟨h1, h.x.off hk (fun e => h.ne e.symm) (fun k e => by subst e; exact h.a.base)⟩
theorem RR.stepX {w W W' : World} {rb xb : Nat} {rv bv : Value} {b : List UInt8} {p q q' : Nat} (h : RR w W rb xb rv bv b p q) (h1 : XrAt w W' xb bv b q') (hk : Off (fun k => k = xb) W W') : RR w W' rb xb rv bv b p q' :=
  ⟨h.a.off hk (fun e => h.ne e) (fun k hk' e => by subst e; exact row_no h.a.own h.x.obj (by decide) hk'), h1⟩
theorem RR.set {w W : World} {rb xb fb : Nat} {rv bv : Value} {b : List UInt8} {p q : Nat} {cs : Array Value} {fr : Nat × Nat} (h : RR w W rb xb rv bv b p q) (hf : W.heap[fb]? = some (.cells cs 37 fr)) (hw : w.heap.size ≤ fb) (j : Nat) (z : Value) : RR w (W.setCell ⟨fb, j, none⟩ z) rb xb rv bv b p q := by
  have hk : Off (fun k => k = fb) W (W.setCell ⟨fb, j, none⟩ z) := Off.set (fun k => k = fb) W ⟨fb, j, none⟩ z rfl
  exact ⟨h.a.off hk (fun e => by subst e; exact apart2 h.a.obj hf (by decide)) (fun k hk' e => by subst e; exact row_no h.a.own hf (by decide) hk'), h.x.off hk (fun e => by subst e; exact apart2 h.x.obj hf (by decide)) (fun k e => by subst e; exact hw)⟩
theorem fbA {w W W' : World} {rb xb fb : Nat} {rv bv : Value} {b : List UInt8} {p q : Nat} {c : Int} {s : Value} (hf : Fb0 W fb c s) (h : RR w W rb xb rv bv b p q) (hk : Off (fun k => k = rb) W W') : Fb0 W' fb c s :=
  (hk.block fb (lt_heap hf) (fun e => by subst e; exact apart2 h.a.obj hf (by decide))).trans hf
theorem fbX {w W W' : World} {rb xb fb : Nat} {rv bv : Value} {b : List UInt8} {p q : Nat} {c : Int} {s : Value} (hf : Fb0 W fb c s) (h : RR w W rb xb rv bv b p q) (hk : Off (fun k => k = xb) W W') : Fb0 W' fb c s :=
  (hk.block fb (lt_heap hf) (fun e => by subst e; exact apart2 h.x.obj hf (by decide))).trans hf
/-- both stores into the variable that holds the document's error. -/
theorem fb_set2 {w W : World} {rb xb fb : Nat} {rv bv : Value} {b : List UInt8} {p q : Nat} {c c' : Int} {s s' : Value} (hf : Fb0 W fb c s) (h : RR w W rb xb rv bv b p q) (hw : w.heap.size ≤ fb) :
    Fb0 ((W.setCell ⟨fb, 0, none⟩ (.int .i64 c')).setCell ⟨fb, 1, none⟩ s') fb c' s' ∧ RR w ((W.setCell ⟨fb, 0, none⟩ (.int .i64 c')).setCell ⟨fb, 1, none⟩ s') rb xb rv bv b p q := by
  have h1 := heap_set W fb 0 _ _ _ (.int .i64 c') hf
  have h2 := heap_set _ fb 1 _ _ _ s' h1
  exact ⟨by unfold Fb0; rw [h2]; rfl, (h.set hf hw 0 _).set h1 hw 1 _⟩
/-- an error of the program's stands where that variable turns. -/
theorem err_off {w w' : World} {fb : Nat} {p : Nat} {c c' : Int} {s' : Value} {g : Nat} (h : WireErr w p c (.iface 91 (.pointer (some ⟨g, 0, none⟩)))) (hk : Off (fun k => k = fb) w w') (hf : Fb0 w fb c' s') : WireErr w' p c (.iface 91 (.pointer (some ⟨g, 0, none⟩))) := by
  refine h.off hk (fun s => ?_)
  subst s
  obtain ⟨b', err, e, hb, h0, h1, h2, h3⟩ := h
  simp only [Value.iface.injEq, Value.pointer.injEq, Option.some.injEq, Addr.mk.injEq, true_and, and_true] at e
  subst e
  rw [(cell2 hf).1] at h0
  simp at h0
theorem ru_bad (xb : Nat) (bv : Value) (l : List UInt8) (p : Nat) (n c : Int) (w0 w : World) (h : XrAt w0 w xb bv l p) (hc : NumBad (l.length - p) n c) : Calls Tryd.prog 16 #[.pointer (some ⟨xb, 0, none⟩), .int .i64 n] w (DocBad w p c (.int .i64 0)) := by
  rcases hc with ⟨hn, rfl⟩ | ⟨hn, hs, rfl⟩
  · exact ru_range xb bv l p n w0 w h hn
  · exact ru_short xb bv l p n w0 w h hn.1 hn.2 hs
theorem ri_bad (xb : Nat) (bv : Value) (l : List UInt8) (p : Nat) (n c : Int) (w0 w : World) (h : XrAt w0 w xb bv l p) (hc : NumBad (l.length - p) n c) : Calls Tryd.prog 18 #[.pointer (some ⟨xb, 0, none⟩), .int .i64 n] w (DocBad w p c (.int .i64 0)) := by
  rcases hc with ⟨hn, rfl⟩ | ⟨hn, hs, rfl⟩
  · exact ri_range xb bv l p n w0 w h hn
  · exact ri_short xb bv l p n w0 w h hn.1 hn.2 hs
theorem rb_bad (xb : Nat) (bv : Value) (l : List UInt8) (p : Nat) (n c : Int) (w0 w : World) (h : XrAt w0 w xb bv l p) (hc : NumBad (l.length - p) n c) : Calls Tryd.prog 20 #[.pointer (some ⟨xb, 0, none⟩), .int .i64 n] w (DocBad w p c (.int .i64 0)) := by
  rcases hc with ⟨hn, rfl⟩ | ⟨hn, hs, rfl⟩
  · exact rb_range xb bv l p n w0 w h hn
  · exact rb_short xb bv l p n w0 w h hn.1 hn.2 hs
theorem rby_bad (xb : Nat) (bv : Value) (l : List UInt8) (p : Nat) (n c : Int) (w0 w : World) (h : XrAt w0 w xb bv l p) (hc : BytesBad (l.length - p) n c) : Calls Tryd.prog 22 #[.pointer (some ⟨xb, 0, none⟩), .int .i64 n] w (DocBad w p c (.slice none 0 0)) := by
  rcases hc with ⟨hn, rfl⟩ | ⟨hn, hs, rfl⟩
  · exact rby_range xb bv l p n w0 w h hn
  · exact rby_short xb bv l p n w0 w h hn hs
theorem num_case (left : Nat) (n : Int) : (∃ m : Nat, n = (m : Int) ∧ 1 ≤ m ∧ m ≤ 6 ∧ m ≤ left) ∨ ∃ c : Int, NumBad left n c ∧ c ≠ 0 := by
  by_cases h1 : 1 ≤ n ∧ n ≤ 6
  · by_cases h2 : (left : Int) < n
    · exact .inr ⟨2, .inr ⟨h1, h2, rfl⟩, by decide⟩
    · exact .inl ⟨n.toNat, by omega, by omega, by omega, by omega⟩
  · exact .inr ⟨1, .inl ⟨h1, rfl⟩, by decide⟩
theorem bytes_case (left : Nat) (n : Int) : (∃ m : Nat, n = (m : Int) ∧ m ≤ left) ∨ ∃ c : Int, BytesBad left n c ∧ c ≠ 0 := by
  by_cases h1 : n < 0
  · exact .inr ⟨1, .inl ⟨h1, rfl⟩, by decide⟩
  · by_cases h2 : (left : Int) < n
    · exact .inr ⟨2, .inr ⟨by omega, h2, rfl⟩, by decide⟩
    · exact .inl ⟨n.toNat, by omega, by omega⟩

/-- What stands while fields are read by both. -/
def ReadInv (w : World) (rb xb : Nat) (rv bv : Value) (b : List UInt8) (W : World) : Prop := ∃ p, RR w W rb xb rv bv b p p

set_option maxRecDepth 100000 in
set_option maxHeartbeats 8000000 in
theorem reads_any (v0 v : Value) (b : List UInt8) (l : List OpV) (w : World) (hv0 : BytesAt w v0 b) (hcp : ∃ ao cap, v0 = .slice ao b.length cap ∧ b.length ≤ cap) (hs : OpsAt w v l) (hg : ErrT w) :
    Calls Tryd.prog 3 #[v0, v] w fun e w' => e = .returned (.bool true) ∧ Below w.heap.size w w' := by
  have HG := Lib.hid hg
  have HS := Lib.hid hs
  have HV := Lib.hid hv0
  have HCP := Lib.hid hcp
  obtain ⟨ao, cap, rfl, _⟩ := hs
  obtain ⟨ab, cb, rfl, _⟩ := hcp
  clear hg hv0
  go_enter Tryd.func3, Tryd.ntmps3
  go_wp2_with fail
  refine (first_any w HG.out).mono ?_
  rintro e w1 ⟨rfl, hb⟩
  have HB1 := Lib.hid hb
  clear hb
  by_cases hbl : b.length ≤ 20000
  · go_wp2_with fail
    refine (few_any _ l w1 (HS.out.on HB1.out)).mono ?_
    rintro e w3 ⟨rfl, rfl⟩
    cases hfew : fewB l with
    | false =>
      clear hfew
      go_wp2_with fail
      refine (first_any w1 (HG.out.up HB1.out)).mono ?_
      rintro e w3 ⟨rfl, hb⟩
      have HB3 := Lib.hid (HB1.out.trans (hb.mono HB1.out.size))
      clear hb
      go_wp2
      go_ret
      exact ⟨rfl, HB3.out⟩
    | true =>
      obtain ⟨hl1, _⟩ := few_bound hfew
      clear hfew
      go_wp2_with fail
      refine (copy_any _ b w1 (HV.out.on HB1.out) (by omega)).mono ?_
      rintro e w2 ⟨iv, rfl, hown, hb⟩
      have HI2 := Lib.hid (bytesAt_own hown)
      obtain ⟨ai, ci, rfl⟩ := row_form hown
      have HB2 : Hid (Below w.heap.size w w2) := Lib.hid (HB1.out.trans (hb.mono HB1.out.size))
      clear hown hb
      go_wp2_with fail
      refine (new_reader _ b w2 HI2.out (by omega)).mono ?_
      rintro e w3 ⟨rb, rv, rfl, hr, hb3⟩
      have HR3 := Lib.hid hr
      have HB3 := Lib.hid hb3
      clear hr hb3
      have HST : Hid (RR w2 (w3.alloc (.cells #[.slice ab b.length cb, .int .i64 0] 31)) rb w3.heap.size rv (.slice ab b.length cb) b 0 0) := Lib.hid ⟨HR3.out.on (below_new _ _), ⟨HB3.out.size, Nat.zero_le _, hbl, heap_alloc_new w3 _, HV.out.on HB2.out, HCP.out, HB3.out.trans ((below_new _ _).mono HB3.out.size)⟩⟩
      have HGW : Hid (∀ W : World, Below w2.heap.size w2 W → ErrT W) := Lib.hid (fun W hW => HG.out.up (HB2.out.trans (hW.mono HB2.out.size)))
      clear HR3 HB1
      go_wp2
      generalize w3.heap.size = xb at *
      generalize w3.alloc (.cells #[.slice ab b.length cb, .int .i64 0] 31) = w4 at *
      clear HB3
      go_loopg [8] l.length (fun q s8 wr => ∃ i : Nat, i ≤ l.length ∧ q = l.length - i ∧ s8 = .int .i64 i ∧ Hid (ReadInv w2 rb xb rv (.slice ab b.length cb) b wr))
      case atStart => exact ⟨0, Nat.zero_le _, rfl, rfl, Lib.hid ⟨_, HST.out⟩⟩
      case round =>
        clear HST
        obtain ⟨i, hi, rfl, rfl, hinv⟩ := hrel
        obtain ⟨p, hW⟩ := hinv.out
        obtain ⟨wo, hwo⟩ : ∃ x, x = wr := ⟨_, rfl⟩
        subst hwo
        have hpl : p ≤ b.length := hW.x.le
        by_cases hlt : i < l.length
        · obtain ⟨bb, off, hao, hcell, hby⟩ := HS.out.at i hlt
          cases hao
          generalize l[i] = o at hcell hby
          obtain ⟨kind, n, x, ov, bs⟩ := o
          clear hby
          have HC := Lib.hid (hcell.on HB2.out)
          have hba : Below wo.heap.size wo (wo.alloc (.cells #[.int .i64 0, .slice none 0 0] 37)) := below_new _ _
          have HWA := Lib.hid (hW.on hba)
          have HFA : Hid (Fb0 (wo.alloc (.cells #[.int .i64 0, .slice none 0 0] 37)) wo.heap.size 0 (.slice none 0 0)) := Lib.hid (heap_alloc_new wo _)
          have hfw : w2.heap.size ≤ wo.heap.size := hW.below.size
          obtain ⟨c0, c1, c2, c3⟩ := HC.out.on HWA.out.below
          simp only at c0 c1 c2 c3
          clear c2 c3
          have hi0 : (0 : Int) ≤ (i : Int) := by omega
          have hil : (i : Int) < (l.length : Int) := by omega
          clear hinv hW hcell hba
          by_cases hk0 : kind = 0
          · subst hk0
            rcases num_case (b.length - p) n with ⟨m, rfl, hm1, hm2, hm3⟩ | ⟨c, hc, hc0⟩
            · have HUA : Hid (∀ W : World, RdAt W w2.heap.size rb rv b p → Calls Tryd.prog 15 #[.pointer (some ⟨rb, 0, none⟩), .int .i64 (m : Int)] W (NumIs W w2.heap.size rb rv b p m ((leNum ((b.drop p).take m) : Nat)))) := Lib.hid (fun W hW => u_ok _ rb rv b p m W hW hm1 hm2 (by omega))
              have HUX : Hid (∀ W : World, XrAt w2 W xb (.slice ab b.length cb) b p → Calls Tryd.prog 16 #[.pointer (some ⟨xb, 0, none⟩), .int .i64 (m : Int)] W (DocNum w2 W xb (.slice ab b.length cb) b p m ((leNum ((b.drop p).take m) : Nat)))) := Lib.hid (fun W hW => ru_ok xb _ b p m w2 W hW hm1 hm2 (by omega))
              generalize ((leNum ((b.drop p).take m) : Nat) : Int) = y at HUA HUX
              obtain ⟨q, hpm⟩ : ∃ q, p + m = q := ⟨_, rfl⟩
              have hq : q ≤ b.length := by omega
              have HPM := Lib.hid hpm
              clear hm1 hm2 hm3 hpm
              go_wp2_with fail
              generalize wo.alloc (.cells #[.int .i64 0, .slice none 0 0] 37) = wa at *
              refine (HUA.out wa HWA.out.a).mono ?_
              rintro e w5 ⟨rfl, hr5, hk5⟩
              rw [HPM.out] at hr5
              have H5 := Lib.hid (HWA.out.stepA hr5 hk5)
              have HF5 := Lib.hid (fbA HFA.out HWA.out hk5)
              clear c0 c1 hr5 hk5
              obtain ⟨c0, c1, _, _⟩ := HC.out.on H5.out.below
              simp only at c0 c1
              go_wp2_with fail
              refine (HUX.out w5 H5.out.x).mono ?_
              rintro e w6 ⟨rfl, hx6, hk6⟩
              rw [HPM.out] at hx6
              have H6 := Lib.hid (H5.out.stepX hx6 hk6)
              have HF6 := Lib.hid (fbX HF5.out H5.out hk6)
              obtain ⟨hF7, h7⟩ := fb_set2 (c' := 0) (s' := .slice none 0 0) HF6.out H6.out hfw
              have HF7 := Lib.hid hF7
              have H7 := Lib.hid h7
              clear c0 c1 hx6 hk6 hF7 h7
              obtain ⟨k0, k1, k2, k3⟩ := cell2 HF6.out
              go_wp2_with fail
              clear k0 k1 k2 k3
              generalize ((w6.setCell ⟨wo.heap.size, 0, none⟩ (.int .i64 0)).setCell ⟨wo.heap.size, 1, none⟩ (.slice none 0 0)) = w7 at *
              have hwr : IntKind.i64.wrap ((b.length : Int) - (q : Int)) = (b.length : Int) - (q : Int) := IntWalk.i64_in _ (by omega)
              obtain ⟨k0, k1, k2, k3⟩ := cell2 HF7.out
              obtain ⟨z0, z1, _, _⟩ := H7.out.x.cells
              go_region_held3 (fun w' => w'.cell? ⟨wo.heap.size, 0, none⟩ = some (.int .i64 0) ∧ w'.cell? ⟨wo.heap.size, 1, none⟩ = some (.slice none 0 0) ∧ w'.cell? ⟨xb, 1, none⟩ = some (.int .i64 (q : Int)))
                (first
                  | exact ⟨k0, k1, z1⟩
                  | exact ⟨j0, j1, y1⟩
                  | exact ⟨i0, i1, x1⟩
                  | go_keep)
                (first
                  | (go_at_call 24; refine (same_none _ (HGW.out _ (H7.out.on (below_drew w7 1)).below)).mono ?_; rintro e w8 ⟨rfl, hb8⟩; have H8 := Lib.hid ((H7.out.on (below_drew w7 1)).on hb8); have HF8 := Lib.hid (keep_on hb8 (keep_on (below_drew w7 1) HF7.out)); obtain ⟨y0, y1, _, _⟩ := H8.out.x.cells; obtain ⟨j0, j1, _, _⟩ := cell2 HF8.out; clear hb8; simp only [])
                  | (go_at_call 25; refine (place_any _ _ _ _ _ _ H8.out.a).mono ?_; rintro e w9 ⟨rfl, hb9⟩; subst hb9; simp only [])
                  | (go_at_call 26; refine (left_any _ _ _ _ _ _ H8.out.a).mono ?_; rintro e w9 ⟨rfl, hb9⟩; have H9 := Lib.hid (H8.out.on hb9); have HF9 := Lib.hid (keep_on hb9 HF8.out); obtain ⟨x0, x1, _, _⟩ := H9.out.x.cells; obtain ⟨i0, i1, _, _⟩ := cell2 HF9.out; clear hb9; rw [show ((b.length - q : Nat) : Int) = (b.length : Int) - (q : Int) by omega]; simp only []))
              all_goals
                have HI : Hid (ReadInv w2 rb xb rv (.slice ab b.length cb) b w9) := Lib.hid ⟨_, H9.out⟩
                clear k0 k1 k2 k3 z0 z1 y0 y1 j0 j1 x0 x1 i0 i1
                go_wp2
                go_roundg (l.length - (i + 1))
                case measure => omega
                case rel => exact ⟨i + 1, by omega, rfl, by go_num, HI⟩
            · have HUA : Hid (∀ W : World, RdAt W w2.heap.size rb rv b p → Calls Tryd.prog 15 #[.pointer (some ⟨rb, 0, none⟩), .int .i64 n] W (BadIs W p c (.int .i64 0))) := Lib.hid (fun W hW => u_bad _ rb rv b p n c W hW hc)
              have HUX : Hid (∀ W : World, XrAt w2 W xb (.slice ab b.length cb) b p → Calls Tryd.prog 16 #[.pointer (some ⟨xb, 0, none⟩), .int .i64 n] W (DocBad W p c (.int .i64 0))) := Lib.hid (fun W hW => ru_bad xb _ b p n c w2 W hW hc)
              have HC0 := Lib.hid hc0
              clear hc hc0
              go_wp2_with fail
              generalize wo.alloc (.cells #[.int .i64 0, .slice none 0 0] 37) = wa at *
              refine (HUA.out wa HWA.out.a).mono ?_
              rintro e w5 ⟨ev, rfl, hwe, hb5⟩
              obtain ⟨ge, rfl, _⟩ := hwe.iface
              have H5 := Lib.hid (HWA.out.on hb5)
              have HF5 := Lib.hid (keep_on hb5 HFA.out)
              have HE5 := Lib.hid hwe
              clear c0 c1 hwe hb5
              obtain ⟨c0, c1, _, _⟩ := HC.out.on H5.out.below
              simp only at c0 c1
              go_wp2_with fail
              refine (HUX.out w5 H5.out.x).mono ?_
              rintro e w6 ⟨gs, rfl, hst, hb6⟩
              have H6 := Lib.hid (H5.out.on hb6)
              have HF6 : Hid (Fb0 w6 wo.heap.size 0 (.slice none 0 0)) := Lib.hid (keep_on hb6 HF5.out)
              have HE6 := Lib.hid (HE5.out.on hb6)
              obtain ⟨hF7, h7⟩ := fb_set2 (c' := c) (s' := .slice (some ⟨gs, 0, none⟩) 1 1) HF6.out H6.out hfw
              have HF7 := Lib.hid hF7
              have H7 := Lib.hid h7
              have HE7 := Lib.hid (err_off HE6.out ((Off.set (fun k => k = wo.heap.size) w6 ⟨wo.heap.size, 0, none⟩ (.int .i64 c) rfl).trans (Off.set _ _ ⟨wo.heap.size, 1, none⟩ (.slice (some ⟨gs, 0, none⟩) 1 1) rfl)) HF6.out)
              have HS7 := Lib.hid (res_steps (c' := c) (s' := .slice (some ⟨gs, 0, none⟩) 1 1) HF6.out hst)
              clear c0 c1 hst hb6 hF7 h7
              obtain ⟨k0, k1, k2, k3⟩ := cell2 HF6.out
              go_wp2_with fail
              clear k0 k1 k2 k3
              generalize ((w6.setCell ⟨wo.heap.size, 0, none⟩ (.int .i64 c)).setCell ⟨wo.heap.size, 1, none⟩ (.slice (some ⟨gs, 0, none⟩) 1 1)) = w7 at *
              have hwr : IntKind.i64.wrap ((b.length : Int) - (p : Int)) = (b.length : Int) - (p : Int) := IntWalk.i64_in _ (by omega)
              obtain ⟨k0, k1, k2, k3⟩ := cell2 HF7.out
              obtain ⟨z0, z1, _, _⟩ := H7.out.x.cells
              go_region_held3 (fun w' => w'.cell? ⟨wo.heap.size, 0, none⟩ = some (.int .i64 c) ∧ w'.cell? ⟨wo.heap.size, 1, none⟩ = some (.slice (some ⟨gs, 0, none⟩) 1 1) ∧ w'.cell? ⟨xb, 1, none⟩ = some (.int .i64 (p : Int)))
                (first
                  | exact ⟨k0, k1, z1⟩
                  | exact ⟨j0, j1, y1⟩
                  | exact ⟨i0, i1, x1⟩
                  | go_keep)
                (first
                  | (go_at_call 24; refine (same_some c HC0.out _ _ [(sWire, (p : Int))] _ (HGW.out _ (H7.out.on (below_drew w7 1)).below) (HE7.out.on (below_drew w7 1)) (HS7.out.on (below_drew w7 1)) (by simp)).mono ?_; rintro e w8 ⟨rfl, hb8⟩; have H8 := Lib.hid ((H7.out.on (below_drew w7 1)).on hb8); have HF8 := Lib.hid (keep_on hb8 (keep_on (below_drew w7 1) HF7.out)); obtain ⟨y0, y1, _, _⟩ := H8.out.x.cells; obtain ⟨j0, j1, _, _⟩ := cell2 HF8.out; clear hb8; simp only [])
                  | (go_at_call 25; refine (place_any _ _ _ _ _ _ H8.out.a).mono ?_; rintro e w9 ⟨rfl, hb9⟩; subst hb9; simp only [])
                  | (go_at_call 26; refine (left_any _ _ _ _ _ _ H8.out.a).mono ?_; rintro e w9 ⟨rfl, hb9⟩; have H9 := Lib.hid (H8.out.on hb9); have HF9 := Lib.hid (keep_on hb9 HF8.out); obtain ⟨x0, x1, _, _⟩ := H9.out.x.cells; obtain ⟨i0, i1, _, _⟩ := cell2 HF9.out; clear hb9; rw [show ((b.length - p : Nat) : Int) = (b.length : Int) - (p : Int) by omega]; simp only []))
              all_goals
                have HI : Hid (ReadInv w2 rb xb rv (.slice ab b.length cb) b w9) := Lib.hid ⟨_, H9.out⟩
                clear k0 k1 k2 k3 z0 z1 y0 y1 j0 j1 x0 x1 i0 i1
                go_wp2
                go_roundg (l.length - (i + 1))
                case measure => omega
                case rel => exact ⟨i + 1, by omega, rfl, by go_num, HI⟩
          · by_cases hk1 : kind = 1
            · subst hk1
              clear hk0
              rcases num_case (b.length - p) n with ⟨m, rfl, hm1, hm2, hm3⟩ | ⟨c, hc, hc0⟩
              · have HUA : Hid (∀ W : World, RdAt W w2.heap.size rb rv b p → Calls Tryd.prog 17 #[.pointer (some ⟨rb, 0, none⟩), .int .i64 (m : Int)] W (NumIs W w2.heap.size rb rv b p m (sgnNum m (leNum ((b.drop p).take m))))) := Lib.hid (fun W hW => i_ok _ rb rv b p m W hW hm1 hm2 (by omega))
                have HUX : Hid (∀ W : World, XrAt w2 W xb (.slice ab b.length cb) b p → Calls Tryd.prog 18 #[.pointer (some ⟨xb, 0, none⟩), .int .i64 (m : Int)] W (DocNum w2 W xb (.slice ab b.length cb) b p m (sgnNum m (leNum ((b.drop p).take m))))) := Lib.hid (fun W hW => ri_ok xb _ b p m w2 W hW hm1 hm2 (by omega))
                generalize (sgnNum m (leNum ((b.drop p).take m)) : Int) = y at HUA HUX
                obtain ⟨q, hpm⟩ : ∃ q, p + m = q := ⟨_, rfl⟩
                have hq : q ≤ b.length := by omega
                have HPM := Lib.hid hpm
                clear hm1 hm2 hm3 hpm
                go_wp2_with fail
                generalize wo.alloc (.cells #[.int .i64 0, .slice none 0 0] 37) = wa at *
                refine (HUA.out wa HWA.out.a).mono ?_
                rintro e w5 ⟨rfl, hr5, hk5⟩
                rw [HPM.out] at hr5
                have H5 := Lib.hid (HWA.out.stepA hr5 hk5)
                have HF5 := Lib.hid (fbA HFA.out HWA.out hk5)
                clear c0 c1 hr5 hk5
                obtain ⟨c0, c1, _, _⟩ := HC.out.on H5.out.below
                simp only at c0 c1
                go_wp2_with fail
                refine (HUX.out w5 H5.out.x).mono ?_
                rintro e w6 ⟨rfl, hx6, hk6⟩
                rw [HPM.out] at hx6
                have H6 := Lib.hid (H5.out.stepX hx6 hk6)
                have HF6 := Lib.hid (fbX HF5.out H5.out hk6)
                obtain ⟨hF7, h7⟩ := fb_set2 (c' := 0) (s' := .slice none 0 0) HF6.out H6.out hfw
                have HF7 := Lib.hid hF7
                have H7 := Lib.hid h7
                clear c0 c1 hx6 hk6 hF7 h7
                obtain ⟨k0, k1, k2, k3⟩ := cell2 HF6.out
                go_wp2_with fail
                clear k0 k1 k2 k3
                generalize ((w6.setCell ⟨wo.heap.size, 0, none⟩ (.int .i64 0)).setCell ⟨wo.heap.size, 1, none⟩ (.slice none 0 0)) = w7 at *
                have hwr : IntKind.i64.wrap ((b.length : Int) - (q : Int)) = (b.length : Int) - (q : Int) := IntWalk.i64_in _ (by omega)
                obtain ⟨k0, k1, k2, k3⟩ := cell2 HF7.out
                obtain ⟨z0, z1, _, _⟩ := H7.out.x.cells
                go_region_held3 (fun w' => w'.cell? ⟨wo.heap.size, 0, none⟩ = some (.int .i64 0) ∧ w'.cell? ⟨wo.heap.size, 1, none⟩ = some (.slice none 0 0) ∧ w'.cell? ⟨xb, 1, none⟩ = some (.int .i64 (q : Int)))
                  (first
                    | exact ⟨k0, k1, z1⟩
                    | exact ⟨j0, j1, y1⟩
                    | exact ⟨i0, i1, x1⟩
                    | go_keep)
                  (first
                    | (go_at_call 24; refine (same_none _ (HGW.out _ (H7.out.on (below_drew w7 1)).below)).mono ?_; rintro e w8 ⟨rfl, hb8⟩; have H8 := Lib.hid ((H7.out.on (below_drew w7 1)).on hb8); have HF8 := Lib.hid (keep_on hb8 (keep_on (below_drew w7 1) HF7.out)); obtain ⟨y0, y1, _, _⟩ := H8.out.x.cells; obtain ⟨j0, j1, _, _⟩ := cell2 HF8.out; clear hb8; simp only [])
                    | (go_at_call 25; refine (place_any _ _ _ _ _ _ H8.out.a).mono ?_; rintro e w9 ⟨rfl, hb9⟩; subst hb9; simp only [])
                    | (go_at_call 26; refine (left_any _ _ _ _ _ _ H8.out.a).mono ?_; rintro e w9 ⟨rfl, hb9⟩; have H9 := Lib.hid (H8.out.on hb9); have HF9 := Lib.hid (keep_on hb9 HF8.out); obtain ⟨x0, x1, _, _⟩ := H9.out.x.cells; obtain ⟨i0, i1, _, _⟩ := cell2 HF9.out; clear hb9; rw [show ((b.length - q : Nat) : Int) = (b.length : Int) - (q : Int) by omega]; simp only []))
                all_goals
                  have HI : Hid (ReadInv w2 rb xb rv (.slice ab b.length cb) b w9) := Lib.hid ⟨_, H9.out⟩
                  clear k0 k1 k2 k3 z0 z1 y0 y1 j0 j1 x0 x1 i0 i1
                  go_wp2
                  go_roundg (l.length - (i + 1))
                  case measure => omega
                  case rel => exact ⟨i + 1, by omega, rfl, by go_num, HI⟩
              · have HUA : Hid (∀ W : World, RdAt W w2.heap.size rb rv b p → Calls Tryd.prog 17 #[.pointer (some ⟨rb, 0, none⟩), .int .i64 n] W (BadIs W p c (.int .i64 0))) := Lib.hid (fun W hW => i_bad _ rb rv b p n c W hW hc)
                have HUX : Hid (∀ W : World, XrAt w2 W xb (.slice ab b.length cb) b p → Calls Tryd.prog 18 #[.pointer (some ⟨xb, 0, none⟩), .int .i64 n] W (DocBad W p c (.int .i64 0))) := Lib.hid (fun W hW => ri_bad xb _ b p n c w2 W hW hc)
                have HC0 := Lib.hid hc0
                clear hc hc0
                go_wp2_with fail
                generalize wo.alloc (.cells #[.int .i64 0, .slice none 0 0] 37) = wa at *
                refine (HUA.out wa HWA.out.a).mono ?_
                rintro e w5 ⟨ev, rfl, hwe, hb5⟩
                obtain ⟨ge, rfl, _⟩ := hwe.iface
                have H5 := Lib.hid (HWA.out.on hb5)
                have HF5 := Lib.hid (keep_on hb5 HFA.out)
                have HE5 := Lib.hid hwe
                clear c0 c1 hwe hb5
                obtain ⟨c0, c1, _, _⟩ := HC.out.on H5.out.below
                simp only at c0 c1
                go_wp2_with fail
                refine (HUX.out w5 H5.out.x).mono ?_
                rintro e w6 ⟨gs, rfl, hst, hb6⟩
                have H6 := Lib.hid (H5.out.on hb6)
                have HF6 : Hid (Fb0 w6 wo.heap.size 0 (.slice none 0 0)) := Lib.hid (keep_on hb6 HF5.out)
                have HE6 := Lib.hid (HE5.out.on hb6)
                obtain ⟨hF7, h7⟩ := fb_set2 (c' := c) (s' := .slice (some ⟨gs, 0, none⟩) 1 1) HF6.out H6.out hfw
                have HF7 := Lib.hid hF7
                have H7 := Lib.hid h7
                have HE7 := Lib.hid (err_off HE6.out ((Off.set (fun k => k = wo.heap.size) w6 ⟨wo.heap.size, 0, none⟩ (.int .i64 c) rfl).trans (Off.set _ _ ⟨wo.heap.size, 1, none⟩ (.slice (some ⟨gs, 0, none⟩) 1 1) rfl)) HF6.out)
                have HS7 := Lib.hid (res_steps (c' := c) (s' := .slice (some ⟨gs, 0, none⟩) 1 1) HF6.out hst)
                clear c0 c1 hst hb6 hF7 h7
                obtain ⟨k0, k1, k2, k3⟩ := cell2 HF6.out
                go_wp2_with fail
                clear k0 k1 k2 k3
                generalize ((w6.setCell ⟨wo.heap.size, 0, none⟩ (.int .i64 c)).setCell ⟨wo.heap.size, 1, none⟩ (.slice (some ⟨gs, 0, none⟩) 1 1)) = w7 at *
                have hwr : IntKind.i64.wrap ((b.length : Int) - (p : Int)) = (b.length : Int) - (p : Int) := IntWalk.i64_in _ (by omega)
                obtain ⟨k0, k1, k2, k3⟩ := cell2 HF7.out
                obtain ⟨z0, z1, _, _⟩ := H7.out.x.cells
                go_region_held3 (fun w' => w'.cell? ⟨wo.heap.size, 0, none⟩ = some (.int .i64 c) ∧ w'.cell? ⟨wo.heap.size, 1, none⟩ = some (.slice (some ⟨gs, 0, none⟩) 1 1) ∧ w'.cell? ⟨xb, 1, none⟩ = some (.int .i64 (p : Int)))
                  (first
                    | exact ⟨k0, k1, z1⟩
                    | exact ⟨j0, j1, y1⟩
                    | exact ⟨i0, i1, x1⟩
                    | go_keep)
                  (first
                    | (go_at_call 24; refine (same_some c HC0.out _ _ [(sWire, (p : Int))] _ (HGW.out _ (H7.out.on (below_drew w7 1)).below) (HE7.out.on (below_drew w7 1)) (HS7.out.on (below_drew w7 1)) (by simp)).mono ?_; rintro e w8 ⟨rfl, hb8⟩; have H8 := Lib.hid ((H7.out.on (below_drew w7 1)).on hb8); have HF8 := Lib.hid (keep_on hb8 (keep_on (below_drew w7 1) HF7.out)); obtain ⟨y0, y1, _, _⟩ := H8.out.x.cells; obtain ⟨j0, j1, _, _⟩ := cell2 HF8.out; clear hb8; simp only [])
                    | (go_at_call 25; refine (place_any _ _ _ _ _ _ H8.out.a).mono ?_; rintro e w9 ⟨rfl, hb9⟩; subst hb9; simp only [])
                    | (go_at_call 26; refine (left_any _ _ _ _ _ _ H8.out.a).mono ?_; rintro e w9 ⟨rfl, hb9⟩; have H9 := Lib.hid (H8.out.on hb9); have HF9 := Lib.hid (keep_on hb9 HF8.out); obtain ⟨x0, x1, _, _⟩ := H9.out.x.cells; obtain ⟨i0, i1, _, _⟩ := cell2 HF9.out; clear hb9; rw [show ((b.length - p : Nat) : Int) = (b.length : Int) - (p : Int) by omega]; simp only []))
                all_goals
                  have HI : Hid (ReadInv w2 rb xb rv (.slice ab b.length cb) b w9) := Lib.hid ⟨_, H9.out⟩
                  clear k0 k1 k2 k3 z0 z1 y0 y1 j0 j1 x0 x1 i0 i1
                  go_wp2
                  go_roundg (l.length - (i + 1))
                  case measure => omega
                  case rel => exact ⟨i + 1, by omega, rfl, by go_num, HI⟩
            · by_cases hk2 : kind = 2
              · subst hk2
                clear hk0 hk1
                rcases num_case (b.length - p) n with ⟨m, rfl, hm1, hm2, hm3⟩ | ⟨c, hc, hc0⟩
                · have HUA : Hid (∀ W : World, RdAt W w2.heap.size rb rv b p → Calls Tryd.prog 19 #[.pointer (some ⟨rb, 0, none⟩), .int .i64 (m : Int)] W (NumIs W w2.heap.size rb rv b p m ((leNum ((b.drop p).take m).reverse : Nat)))) := Lib.hid (fun W hW => b_ok _ rb rv b p m W hW hm1 hm2 (by omega))
                  have HUX : Hid (∀ W : World, XrAt w2 W xb (.slice ab b.length cb) b p → Calls Tryd.prog 20 #[.pointer (some ⟨xb, 0, none⟩), .int .i64 (m : Int)] W (DocNum w2 W xb (.slice ab b.length cb) b p m ((leNum ((b.drop p).take m).reverse : Nat)))) := Lib.hid (fun W hW => rb_ok xb _ b p m w2 W hW hm1 hm2 (by omega))
                  generalize ((leNum ((b.drop p).take m).reverse : Nat) : Int) = y at HUA HUX
                  obtain ⟨q, hpm⟩ : ∃ q, p + m = q := ⟨_, rfl⟩
                  have hq : q ≤ b.length := by omega
                  have HPM := Lib.hid hpm
                  clear hm1 hm2 hm3 hpm
                  go_wp2_with fail
                  generalize wo.alloc (.cells #[.int .i64 0, .slice none 0 0] 37) = wa at *
                  refine (HUA.out wa HWA.out.a).mono ?_
                  rintro e w5 ⟨rfl, hr5, hk5⟩
                  rw [HPM.out] at hr5
                  have H5 := Lib.hid (HWA.out.stepA hr5 hk5)
                  have HF5 := Lib.hid (fbA HFA.out HWA.out hk5)
                  clear c0 c1 hr5 hk5
                  obtain ⟨c0, c1, _, _⟩ := HC.out.on H5.out.below
                  simp only at c0 c1
                  go_wp2_with fail
                  refine (HUX.out w5 H5.out.x).mono ?_
                  rintro e w6 ⟨rfl, hx6, hk6⟩
                  rw [HPM.out] at hx6
                  have H6 := Lib.hid (H5.out.stepX hx6 hk6)
                  have HF6 := Lib.hid (fbX HF5.out H5.out hk6)
                  obtain ⟨hF7, h7⟩ := fb_set2 (c' := 0) (s' := .slice none 0 0) HF6.out H6.out hfw
                  have HF7 := Lib.hid hF7
                  have H7 := Lib.hid h7
                  clear c0 c1 hx6 hk6 hF7 h7
                  obtain ⟨k0, k1, k2, k3⟩ := cell2 HF6.out
                  go_wp2_with fail
                  clear k0 k1 k2 k3
                  generalize ((w6.setCell ⟨wo.heap.size, 0, none⟩ (.int .i64 0)).setCell ⟨wo.heap.size, 1, none⟩ (.slice none 0 0)) = w7 at *
                  have hwr : IntKind.i64.wrap ((b.length : Int) - (q : Int)) = (b.length : Int) - (q : Int) := IntWalk.i64_in _ (by omega)
                  obtain ⟨k0, k1, k2, k3⟩ := cell2 HF7.out
                  obtain ⟨z0, z1, _, _⟩ := H7.out.x.cells
                  go_region_held3 (fun w' => w'.cell? ⟨wo.heap.size, 0, none⟩ = some (.int .i64 0) ∧ w'.cell? ⟨wo.heap.size, 1, none⟩ = some (.slice none 0 0) ∧ w'.cell? ⟨xb, 1, none⟩ = some (.int .i64 (q : Int)))
                    (first
                      | exact ⟨k0, k1, z1⟩
                      | exact ⟨j0, j1, y1⟩
                      | exact ⟨i0, i1, x1⟩
                      | go_keep)
                    (first
                      | (go_at_call 24; refine (same_none _ (HGW.out _ (H7.out.on (below_drew w7 1)).below)).mono ?_; rintro e w8 ⟨rfl, hb8⟩; have H8 := Lib.hid ((H7.out.on (below_drew w7 1)).on hb8); have HF8 := Lib.hid (keep_on hb8 (keep_on (below_drew w7 1) HF7.out)); obtain ⟨y0, y1, _, _⟩ := H8.out.x.cells; obtain ⟨j0, j1, _, _⟩ := cell2 HF8.out; clear hb8; simp only [])
                      | (go_at_call 25; refine (place_any _ _ _ _ _ _ H8.out.a).mono ?_; rintro e w9 ⟨rfl, hb9⟩; subst hb9; simp only [])
                      | (go_at_call 26; refine (left_any _ _ _ _ _ _ H8.out.a).mono ?_; rintro e w9 ⟨rfl, hb9⟩; have H9 := Lib.hid (H8.out.on hb9); have HF9 := Lib.hid (keep_on hb9 HF8.out); obtain ⟨x0, x1, _, _⟩ := H9.out.x.cells; obtain ⟨i0, i1, _, _⟩ := cell2 HF9.out; clear hb9; rw [show ((b.length - q : Nat) : Int) = (b.length : Int) - (q : Int) by omega]; simp only []))
                  all_goals
                    have HI : Hid (ReadInv w2 rb xb rv (.slice ab b.length cb) b w9) := Lib.hid ⟨_, H9.out⟩
                    clear k0 k1 k2 k3 z0 z1 y0 y1 j0 j1 x0 x1 i0 i1
                    go_wp2
                    go_roundg (l.length - (i + 1))
                    case measure => omega
                    case rel => exact ⟨i + 1, by omega, rfl, by go_num, HI⟩
                · have HUA : Hid (∀ W : World, RdAt W w2.heap.size rb rv b p → Calls Tryd.prog 19 #[.pointer (some ⟨rb, 0, none⟩), .int .i64 n] W (BadIs W p c (.int .i64 0))) := Lib.hid (fun W hW => b_bad _ rb rv b p n c W hW hc)
                  have HUX : Hid (∀ W : World, XrAt w2 W xb (.slice ab b.length cb) b p → Calls Tryd.prog 20 #[.pointer (some ⟨xb, 0, none⟩), .int .i64 n] W (DocBad W p c (.int .i64 0))) := Lib.hid (fun W hW => rb_bad xb _ b p n c w2 W hW hc)
                  have HC0 := Lib.hid hc0
                  clear hc hc0
                  go_wp2_with fail
                  generalize wo.alloc (.cells #[.int .i64 0, .slice none 0 0] 37) = wa at *
                  refine (HUA.out wa HWA.out.a).mono ?_
                  rintro e w5 ⟨ev, rfl, hwe, hb5⟩
                  obtain ⟨ge, rfl, _⟩ := hwe.iface
                  have H5 := Lib.hid (HWA.out.on hb5)
                  have HF5 := Lib.hid (keep_on hb5 HFA.out)
                  have HE5 := Lib.hid hwe
                  clear c0 c1 hwe hb5
                  obtain ⟨c0, c1, _, _⟩ := HC.out.on H5.out.below
                  simp only at c0 c1
                  go_wp2_with fail
                  refine (HUX.out w5 H5.out.x).mono ?_
                  rintro e w6 ⟨gs, rfl, hst, hb6⟩
                  have H6 := Lib.hid (H5.out.on hb6)
                  have HF6 : Hid (Fb0 w6 wo.heap.size 0 (.slice none 0 0)) := Lib.hid (keep_on hb6 HF5.out)
                  have HE6 := Lib.hid (HE5.out.on hb6)
                  obtain ⟨hF7, h7⟩ := fb_set2 (c' := c) (s' := .slice (some ⟨gs, 0, none⟩) 1 1) HF6.out H6.out hfw
                  have HF7 := Lib.hid hF7
                  have H7 := Lib.hid h7
                  have HE7 := Lib.hid (err_off HE6.out ((Off.set (fun k => k = wo.heap.size) w6 ⟨wo.heap.size, 0, none⟩ (.int .i64 c) rfl).trans (Off.set _ _ ⟨wo.heap.size, 1, none⟩ (.slice (some ⟨gs, 0, none⟩) 1 1) rfl)) HF6.out)
                  have HS7 := Lib.hid (res_steps (c' := c) (s' := .slice (some ⟨gs, 0, none⟩) 1 1) HF6.out hst)
                  clear c0 c1 hst hb6 hF7 h7
                  obtain ⟨k0, k1, k2, k3⟩ := cell2 HF6.out
                  go_wp2_with fail
                  clear k0 k1 k2 k3
                  generalize ((w6.setCell ⟨wo.heap.size, 0, none⟩ (.int .i64 c)).setCell ⟨wo.heap.size, 1, none⟩ (.slice (some ⟨gs, 0, none⟩) 1 1)) = w7 at *
                  have hwr : IntKind.i64.wrap ((b.length : Int) - (p : Int)) = (b.length : Int) - (p : Int) := IntWalk.i64_in _ (by omega)
                  obtain ⟨k0, k1, k2, k3⟩ := cell2 HF7.out
                  obtain ⟨z0, z1, _, _⟩ := H7.out.x.cells
                  go_region_held3 (fun w' => w'.cell? ⟨wo.heap.size, 0, none⟩ = some (.int .i64 c) ∧ w'.cell? ⟨wo.heap.size, 1, none⟩ = some (.slice (some ⟨gs, 0, none⟩) 1 1) ∧ w'.cell? ⟨xb, 1, none⟩ = some (.int .i64 (p : Int)))
                    (first
                      | exact ⟨k0, k1, z1⟩
                      | exact ⟨j0, j1, y1⟩
                      | exact ⟨i0, i1, x1⟩
                      | go_keep)
                    (first
                      | (go_at_call 24; refine (same_some c HC0.out _ _ [(sWire, (p : Int))] _ (HGW.out _ (H7.out.on (below_drew w7 1)).below) (HE7.out.on (below_drew w7 1)) (HS7.out.on (below_drew w7 1)) (by simp)).mono ?_; rintro e w8 ⟨rfl, hb8⟩; have H8 := Lib.hid ((H7.out.on (below_drew w7 1)).on hb8); have HF8 := Lib.hid (keep_on hb8 (keep_on (below_drew w7 1) HF7.out)); obtain ⟨y0, y1, _, _⟩ := H8.out.x.cells; obtain ⟨j0, j1, _, _⟩ := cell2 HF8.out; clear hb8; simp only [])
                      | (go_at_call 25; refine (place_any _ _ _ _ _ _ H8.out.a).mono ?_; rintro e w9 ⟨rfl, hb9⟩; subst hb9; simp only [])
                      | (go_at_call 26; refine (left_any _ _ _ _ _ _ H8.out.a).mono ?_; rintro e w9 ⟨rfl, hb9⟩; have H9 := Lib.hid (H8.out.on hb9); have HF9 := Lib.hid (keep_on hb9 HF8.out); obtain ⟨x0, x1, _, _⟩ := H9.out.x.cells; obtain ⟨i0, i1, _, _⟩ := cell2 HF9.out; clear hb9; rw [show ((b.length - p : Nat) : Int) = (b.length : Int) - (p : Int) by omega]; simp only []))
                  all_goals
                    have HI : Hid (ReadInv w2 rb xb rv (.slice ab b.length cb) b w9) := Lib.hid ⟨_, H9.out⟩
                    clear k0 k1 k2 k3 z0 z1 y0 y1 j0 j1 x0 x1 i0 i1
                    go_wp2
                    go_roundg (l.length - (i + 1))
                    case measure => omega
                    case rel => exact ⟨i + 1, by omega, rfl, by go_num, HI⟩
              · have q0 : (kind == 0) = false := by simpa using hk0
                have q1 : (kind == 1) = false := by simpa using hk1
                have q2 : (kind == 2) = false := by simpa using hk2
                clear hk0 hk1 hk2
                rcases bytes_case (b.length - p) n with ⟨m, rfl, hm3⟩ | ⟨c, hc, hc0⟩
                · have HUA : Hid (∀ W : World, RdAt W w2.heap.size rb rv b p → Calls Tryd.prog 21 #[.pointer (some ⟨rb, 0, none⟩), .int .i64 (m : Int)] W (RowIs W w2.heap.size rb rv b p m)) := Lib.hid (fun W hW => bytes_ok _ rb rv b p m W hW (by omega))
                  have HUX : Hid (∀ W : World, XrAt w2 W xb (.slice ab b.length cb) b p → Calls Tryd.prog 22 #[.pointer (some ⟨xb, 0, none⟩), .int .i64 (m : Int)] W (DocRow w2 W xb (.slice ab b.length cb) b p m)) := Lib.hid (fun W hW => rby_ok xb _ b p m w2 W hW (by omega))
                  have HCL : Hid (((b.drop p).take m).length = m) := Lib.hid (cut_length b p m (by omega))
                  obtain ⟨q, hpm⟩ : ∃ q, p + m = q := ⟨_, rfl⟩
                  have hq : q ≤ b.length := by omega
                  have HPM := Lib.hid hpm
                  clear hm3 hpm
                  go_wp2_with fail
                  generalize wo.alloc (.cells #[.int .i64 0, .slice none 0 0] 37) = wa at *
                  refine (HUA.out wa HWA.out.a).mono ?_
                  rintro e w5 ⟨⟨pv, rfl, hpo⟩, hr5, hk5⟩
                  rw [HPM.out] at hr5
                  obtain ⟨apv, cpv, rfl⟩ := row_form hpo
                  have H5 := Lib.hid (HWA.out.stepA hr5 hk5)
                  have HF5 := Lib.hid (fbA HFA.out HWA.out hk5)
                  have HP5 := Lib.hid hpo
                  clear c0 c1 hr5 hk5 hpo
                  obtain ⟨c0, c1, _, _⟩ := HC.out.on H5.out.below
                  simp only at c0 c1
                  go_wp2_with fail
                  refine (HUX.out w5 H5.out.x).mono ?_
                  rintro e w6 ⟨⟨qv, rfl, hqo⟩, hx6, hk6⟩
                  rw [HPM.out] at hx6
                  obtain ⟨aqv, cqv, rfl⟩ := row_form hqo
                  have hpo6 := ownsRow_off HP5.out hk6 (fun k hk e => by subst e; exact row_no HP5.out H5.out.x.obj (by decide) hk)
                  have hbe : Below w6.heap.size w6 (w6.alloc (.cells #[.int .i64 0, .slice none 0 0] 37)) := below_new _ _
                  have HP6 := Lib.hid ((bytesAt_own (l := ((b.drop p).take m)) (by rw [HCL.out]; exact hpo6)).on hbe)
                  have HQ6 := Lib.hid ((bytesAt_own (l := ((b.drop p).take m)) (by rw [HCL.out]; exact hqo)).on hbe)
                  have H6 := Lib.hid ((H5.out.stepX hx6 hk6).on hbe)
                  have HF6 : Hid (Fb0 (w6.alloc (.cells #[.int .i64 0, .slice none 0 0] 37)) wo.heap.size 0 (.slice none 0 0)) := Lib.hid (keep_on hbe (fbX HF5.out H5.out hk6))
                  have HH6 : Hid (Fb0 (w6.alloc (.cells #[.int .i64 0, .slice none 0 0] 37)) w6.heap.size 0 (.slice none 0 0)) := Lib.hid (heap_alloc_new w6 _)
                  clear c0 c1 hx6 hk6 hqo hpo6 hbe
                  go_wp2_with fail
                  generalize w6.heap.size = hb6 at *
                  generalize w6.alloc (.cells #[.int .i64 0, .slice none 0 0] 37) = w6 at *
                  refine (alike_any _ _ ((b.drop p).take m) ((b.drop p).take m) _ HP6.out HQ6.out).mono ?_
                  rintro e w9 ⟨rfl, rfl⟩
                  rw [show (((b.drop p).take m) == ((b.drop p).take m)) = true by simp]
                  obtain ⟨hF7, h7⟩ := fb_set2 (c' := 0) (s' := .slice none 0 0) HF6.out H6.out hfw
                  have HF7 : Hid (Fb0 ((w6.setCell ⟨wo.heap.size, 0, none⟩ (.int .i64 0)).setCell ⟨wo.heap.size, 1, none⟩ (.slice none 0 0)).drew wo.heap.size 0 (.slice none 0 0)) := Lib.hid (keep_on (below_drew _ 1) hF7)
                  have H7 : Hid (RR w2 ((w6.setCell ⟨wo.heap.size, 0, none⟩ (.int .i64 0)).setCell ⟨wo.heap.size, 1, none⟩ (.slice none 0 0)).drew rb xb rv (.slice ab b.length cb) b q q) := Lib.hid (h7.on (below_drew _ 1))
                  clear hF7 h7
                  obtain ⟨k0, k1, k2, k3⟩ := cell2 HF6.out
                  obtain ⟨y0, y1, y2, y3⟩ := cell2 HH6.out
                  go_wp2_with fail
                  go_region_law (fail)
                  all_goals
                    go_wp2_with fail
                    clear k0 k1 k2 k3 y0 y1 y2 y3
                    generalize ((w6.setCell ⟨wo.heap.size, 0, none⟩ (.int .i64 0)).setCell ⟨wo.heap.size, 1, none⟩ (.slice none 0 0)).drew = w7 at *
                    have hwr : IntKind.i64.wrap ((b.length : Int) - (q : Int)) = (b.length : Int) - (q : Int) := IntWalk.i64_in _ (by omega)
                    obtain ⟨k0, k1, k2, k3⟩ := cell2 HF7.out
                    obtain ⟨z0, z1, _, _⟩ := H7.out.x.cells
                    go_region_held3 (fun w' => w'.cell? ⟨wo.heap.size, 0, none⟩ = some (.int .i64 0) ∧ w'.cell? ⟨wo.heap.size, 1, none⟩ = some (.slice none 0 0) ∧ w'.cell? ⟨xb, 1, none⟩ = some (.int .i64 (q : Int)))
                      (first
                        | exact ⟨k0, k1, z1⟩
                        | exact ⟨j0, j1, y1⟩
                        | exact ⟨i0, i1, x1⟩
                        | go_keep)
                      (first
                        | (go_at_call 24; refine (same_none _ (HGW.out _ (H7.out.on (below_drew w7 1)).below)).mono ?_; rintro e w8 ⟨rfl, hb8⟩; have H8 := Lib.hid ((H7.out.on (below_drew w7 1)).on hb8); have HF8 := Lib.hid (keep_on hb8 (keep_on (below_drew w7 1) HF7.out)); obtain ⟨y0, y1, _, _⟩ := H8.out.x.cells; obtain ⟨j0, j1, _, _⟩ := cell2 HF8.out; clear hb8; simp only [])
                        | (go_at_call 25; refine (place_any _ _ _ _ _ _ H8.out.a).mono ?_; rintro e w9 ⟨rfl, hb9⟩; subst hb9; simp only [])
                        | (go_at_call 26; refine (left_any _ _ _ _ _ _ H8.out.a).mono ?_; rintro e w9 ⟨rfl, hb9⟩; have H9 := Lib.hid (H8.out.on hb9); have HF9 := Lib.hid (keep_on hb9 HF8.out); obtain ⟨x0, x1, _, _⟩ := H9.out.x.cells; obtain ⟨i0, i1, _, _⟩ := cell2 HF9.out; clear hb9; rw [show ((b.length - q : Nat) : Int) = (b.length : Int) - (q : Int) by omega]; simp only []))
                    all_goals
                      have HI : Hid (ReadInv w2 rb xb rv (.slice ab b.length cb) b w9) := Lib.hid ⟨_, H9.out⟩
                      clear k0 k1 k2 k3 z0 z1 y0 y1 j0 j1 x0 x1 i0 i1
                      go_wp2
                      go_roundg (l.length - (i + 1))
                      case measure => omega
                      case rel => exact ⟨i + 1, by omega, rfl, by go_num, HI⟩
                · have HUA : Hid (∀ W : World, RdAt W w2.heap.size rb rv b p → Calls Tryd.prog 21 #[.pointer (some ⟨rb, 0, none⟩), .int .i64 n] W (BadIs W p c (.slice none 0 0))) := Lib.hid (fun W hW => bytes_bad _ rb rv b p n c W hW hc)
                  have HUX : Hid (∀ W : World, XrAt w2 W xb (.slice ab b.length cb) b p → Calls Tryd.prog 22 #[.pointer (some ⟨xb, 0, none⟩), .int .i64 n] W (DocBad W p c (.slice none 0 0))) := Lib.hid (fun W hW => rby_bad xb _ b p n c w2 W hW hc)
                  have HC0 := Lib.hid hc0
                  clear hc hc0
                  go_wp2_with fail
                  generalize wo.alloc (.cells #[.int .i64 0, .slice none 0 0] 37) = wa at *
                  refine (HUA.out wa HWA.out.a).mono ?_
                  rintro e w5 ⟨ev, rfl, hwe, hb5⟩
                  obtain ⟨ge, rfl, _⟩ := hwe.iface
                  have H5 := Lib.hid (HWA.out.on hb5)
                  have HF5 := Lib.hid (keep_on hb5 HFA.out)
                  have HE5 := Lib.hid hwe
                  clear c0 c1 hwe hb5
                  obtain ⟨c0, c1, _, _⟩ := HC.out.on H5.out.below
                  simp only at c0 c1
                  go_wp2_with fail
                  refine (HUX.out w5 H5.out.x).mono ?_
                  rintro e w6 ⟨gs, rfl, hst, hb6⟩
                  have hbe : Below w6.heap.size w6 (w6.alloc (.cells #[.int .i64 c, .slice (some ⟨gs, 0, none⟩) 1 1] 37)) := below_new _ _
                  have H6 := Lib.hid ((H5.out.on hb6).on hbe)
                  have HF6 : Hid (Fb0 (w6.alloc (.cells #[.int .i64 c, .slice (some ⟨gs, 0, none⟩) 1 1] 37)) wo.heap.size 0 (.slice none 0 0)) := Lib.hid (keep_on hbe (keep_on hb6 HF5.out))
                  have HH6 : Hid (Fb0 (w6.alloc (.cells #[.int .i64 c, .slice (some ⟨gs, 0, none⟩) 1 1] 37)) w6.heap.size c (.slice (some ⟨gs, 0, none⟩) 1 1)) := Lib.hid (heap_alloc_new w6 _)
                  have HE6 := Lib.hid ((HE5.out.on hb6).on hbe)
                  have HS6 := Lib.hid (hst.on hbe)
                  clear c0 c1 hst hb6 hbe
                  go_wp2_with fail
                  generalize w6.heap.size = hb6 at *
                  generalize w6.alloc (.cells #[.int .i64 c, .slice (some ⟨gs, 0, none⟩) 1 1] 37) = w6 at *
                  refine (alike_any _ _ [] [] _ (bytes_nil _ _ _) (bytes_nil _ _ _)).mono ?_
                  rintro e w9 ⟨rfl, rfl⟩
                  rw [show (([] : List UInt8) == []) = true by rfl]
                  obtain ⟨hF7, h7⟩ := fb_set2 (c' := c) (s' := .slice (some ⟨gs, 0, none⟩) 1 1) HF6.out H6.out hfw
                  have HF7 : Hid (Fb0 ((w6.setCell ⟨wo.heap.size, 0, none⟩ (.int .i64 c)).setCell ⟨wo.heap.size, 1, none⟩ (.slice (some ⟨gs, 0, none⟩) 1 1)).drew wo.heap.size c (.slice (some ⟨gs, 0, none⟩) 1 1)) := Lib.hid (keep_on (below_drew _ 1) hF7)
                  have H7 : Hid (RR w2 ((w6.setCell ⟨wo.heap.size, 0, none⟩ (.int .i64 c)).setCell ⟨wo.heap.size, 1, none⟩ (.slice (some ⟨gs, 0, none⟩) 1 1)).drew rb xb rv (.slice ab b.length cb) b p p) := Lib.hid (h7.on (below_drew _ 1))
                  have he7 := err_off HE6.out ((Off.set (fun k => k = wo.heap.size) w6 ⟨wo.heap.size, 0, none⟩ (.int .i64 c) rfl).trans (Off.set _ _ ⟨wo.heap.size, 1, none⟩ (.slice (some ⟨gs, 0, none⟩) 1 1) rfl)) HF6.out
                  have HE7 : Hid (WireErr ((w6.setCell ⟨wo.heap.size, 0, none⟩ (.int .i64 c)).setCell ⟨wo.heap.size, 1, none⟩ (.slice (some ⟨gs, 0, none⟩) 1 1)).drew p c (.iface 91 (.pointer (some ⟨ge, 0, none⟩)))) := Lib.hid (he7.on (below_drew _ 1))
                  have HS7 : Hid (StepsOwn ((w6.setCell ⟨wo.heap.size, 0, none⟩ (.int .i64 c)).setCell ⟨wo.heap.size, 1, none⟩ (.slice (some ⟨gs, 0, none⟩) 1 1)).drew (.slice (some ⟨gs, 0, none⟩) 1 1) [(sWire, (p : Int))]) := Lib.hid ((res_steps (c' := c) (s' := .slice (some ⟨gs, 0, none⟩) 1 1) HF6.out HS6.out).on (below_drew _ 1))
                  clear hF7 h7 he7
                  obtain ⟨k0, k1, k2, k3⟩ := cell2 HF6.out
                  obtain ⟨y0, y1, y2, y3⟩ := cell2 HH6.out
                  go_wp2_with fail
                  go_region_law (fail)
                  all_goals
                    go_wp2_with fail
                    clear k0 k1 k2 k3 y0 y1 y2 y3
                    generalize ((w6.setCell ⟨wo.heap.size, 0, none⟩ (.int .i64 c)).setCell ⟨wo.heap.size, 1, none⟩ (.slice (some ⟨gs, 0, none⟩) 1 1)).drew = w7 at *
                    have hwr : IntKind.i64.wrap ((b.length : Int) - (p : Int)) = (b.length : Int) - (p : Int) := IntWalk.i64_in _ (by omega)
                    obtain ⟨k0, k1, k2, k3⟩ := cell2 HF7.out
                    obtain ⟨z0, z1, _, _⟩ := H7.out.x.cells
                    go_region_held3 (fun w' => w'.cell? ⟨wo.heap.size, 0, none⟩ = some (.int .i64 c) ∧ w'.cell? ⟨wo.heap.size, 1, none⟩ = some (.slice (some ⟨gs, 0, none⟩) 1 1) ∧ w'.cell? ⟨xb, 1, none⟩ = some (.int .i64 (p : Int)))
                      (first
                        | exact ⟨k0, k1, z1⟩
                        | exact ⟨j0, j1, y1⟩
                        | exact ⟨i0, i1, x1⟩
                        | go_keep)
                      (first
                        | (go_at_call 24; refine (same_some c HC0.out _ _ [(sWire, (p : Int))] _ (HGW.out _ (H7.out.on (below_drew w7 1)).below) (HE7.out.on (below_drew w7 1)) (HS7.out.on (below_drew w7 1)) (by simp)).mono ?_; rintro e w8 ⟨rfl, hb8⟩; have H8 := Lib.hid ((H7.out.on (below_drew w7 1)).on hb8); have HF8 := Lib.hid (keep_on hb8 (keep_on (below_drew w7 1) HF7.out)); obtain ⟨y0, y1, _, _⟩ := H8.out.x.cells; obtain ⟨j0, j1, _, _⟩ := cell2 HF8.out; clear hb8; simp only [])
                        | (go_at_call 25; refine (place_any _ _ _ _ _ _ H8.out.a).mono ?_; rintro e w9 ⟨rfl, hb9⟩; subst hb9; simp only [])
                        | (go_at_call 26; refine (left_any _ _ _ _ _ _ H8.out.a).mono ?_; rintro e w9 ⟨rfl, hb9⟩; have H9 := Lib.hid (H8.out.on hb9); have HF9 := Lib.hid (keep_on hb9 HF8.out); obtain ⟨x0, x1, _, _⟩ := H9.out.x.cells; obtain ⟨i0, i1, _, _⟩ := cell2 HF9.out; clear hb9; rw [show ((b.length - p : Nat) : Int) = (b.length : Int) - (p : Int) by omega]; simp only []))
                    all_goals
                      have HI : Hid (ReadInv w2 rb xb rv (.slice ab b.length cb) b w9) := Lib.hid ⟨_, H9.out⟩
                      clear k0 k1 k2 k3 z0 z1 y0 y1 j0 j1 x0 x1 i0 i1
                      go_wp2
                      go_roundg (l.length - (i + 1))
                      case measure => omega
                      case rel => exact ⟨i + 1, by omega, rfl, by go_num, HI⟩
        · have HW := Lib.hid hW
          clear hinv hW
          go_wp2_with fail
          refine (first_any _ (HGW.out _ HW.out.below)).mono ?_
          rintro e w5 ⟨rfl, hb⟩
          have H5 := Lib.hid (HW.out.on hb)
          clear hb
          by_cases hp : p < b.length
          · go_wp2_with fail
            refine (done_long _ _ _ _ _ _ H5.out.a hp).mono ?_
            rintro e w6 ⟨ev, rfl, hwe, hb⟩
            obtain ⟨ge, rfl, _⟩ := hwe.iface
            have H6 := Lib.hid (H5.out.on hb)
            have HE6 := Lib.hid hwe
            clear hb hwe
            go_wp2_with fail
            refine (rdone_long _ _ _ _ _ _ H6.out.x hp).mono ?_
            rintro e w7 ⟨gs, rfl, hst, hb⟩
            have H7 := Lib.hid (H6.out.on hb)
            have HE7 := Lib.hid (HE6.out.on hb)
            have HS7 := Lib.hid hst
            clear hb hst
            go_wp2_with fail
            refine (same_some 3 (by decide) _ _ [(sWire, (p : Int))] _ (HGW.out _ H7.out.below) HE7.out HS7.out (by simp)).mono ?_
            rintro e w8 ⟨rfl, hb⟩
            have HB8 := Lib.hid (H7.out.on hb).below
            clear hb
            go_wp2_with fail
            refine (alike_any _ _ b b _ (HI2.out.on HB8.out) (HV.out.on (HB2.out.trans (HB8.out.mono HB2.out.size)))).mono ?_
            rintro e w9 ⟨rfl, rfl⟩
            rw [show (b == b) = true by simp]
            go_wp2
            go_ret
            exact ⟨rfl, HB2.out.trans (HB8.out.mono HB2.out.size)⟩
          · have hpe : p = b.length := by omega
            go_wp2_with fail
            refine (done_ok _ _ _ _ _ _ H5.out.a hpe).mono ?_
            rintro e w6 ⟨rfl, hb⟩
            have H6 := Lib.hid (H5.out.on hb)
            clear hb
            go_wp2_with fail
            refine (rdone_ok _ _ _ _ _ _ H6.out.x hpe).mono ?_
            rintro e w7 ⟨rfl, hb⟩
            have H7 := Lib.hid (H6.out.on hb)
            clear hb
            go_wp2_with fail
            refine (same_none _ (HGW.out _ H7.out.below)).mono ?_
            rintro e w8 ⟨rfl, hb⟩
            have HB8 := Lib.hid (H7.out.on hb).below
            clear hb
            go_wp2_with fail
            refine (alike_any _ _ b b _ (HI2.out.on HB8.out) (HV.out.on (HB2.out.trans (HB8.out.mono HB2.out.size)))).mono ?_
            rintro e w9 ⟨rfl, rfl⟩
            rw [show (b == b) = true by simp]
            go_wp2
            go_ret
            exact ⟨rfl, HB2.out.trans (HB8.out.mono HB2.out.size)⟩
  · have hbl2 : 20000 < b.length := by omega
    clear hbl
    go_wp2_with fail
    refine (first_any w1 (HG.out.up HB1.out)).mono ?_
    rintro e w3 ⟨rfl, hb⟩
    have HB3 := Lib.hid (HB1.out.trans (hb.mono HB1.out.size))
    clear hb
    go_wp2
    go_ret
    exact ⟨rfl, HB3.out⟩
end Go.Proofs.YtpdngcjgfngnjaaDoor
