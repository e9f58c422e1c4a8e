/- fail.Path of an error that In has wrapped: a new list of its steps, the outermost first; all older memory stands. -/
import Derived.Test.YtpocjmlkhophoaaGreatDoorOf
import Derived.OwnWalk
import Derived.Deep.RegionHeld3
import Derived.Deep.AppendLies
namespace Go.Proofs.YtpocjmlkhophoaaGreatDoor
open Go.RowKit Go.Extern.Stop Go.Stop Go.Extern

/-- What an error ends in below its wraps: nothing, a code, or an error of errors.New's. -/
def Ends (t : Value) : Prop := t = .nilIface ∨ ∃ te x, t = .iface te x ∧ NoFail te

/-- The pointer to the outermost Fail of such an error. -/
def NearOf (w : World) (t : Value) : List (ByteArray × Int) → Value → Prop
  | [], p => p = .pointer none
  | (s, q) :: l, p => ∃ b err, p = .pointer (some ⟨b, 0, none⟩) ∧ b < w.heap.size ∧ w.cell? ⟨b, 0, none⟩ = some (.string s) ∧ w.cell? ⟨b, 1, none⟩ = some (.int .i64 q) ∧ w.cell? ⟨b, 2, none⟩ = some err ∧ Chain w t l err

theorem near_chain (l : List (ByteArray × Int)) (v t : Value) (w0 w : World) (hg : ErrT w) (he : Ends t) (hc : Chain w0 t l v) :
    Calls Tryz.prog 103 #[v] w fun e w' => (∃ p, e = .returned p ∧ NearOf w0 t l p) ∧ Below w.heap.size w w' := by
  cases l with
  | nil =>
    have hv : v = t := hc
    subst hv
    rcases he with rfl | ⟨te, x, rfl, hn⟩
    · exact (near_nil w).mono fun e w' ⟨h1, h2⟩ => ⟨⟨_, h1, rfl⟩, h2⟩
    · exact (near_none te x hn w hg).mono fun e w' ⟨h1, h2⟩ => ⟨⟨_, h1, rfl⟩, h2⟩
  | cons sp l =>
    obtain ⟨s, q⟩ := sp
    obtain ⟨b, err, rfl, h⟩ := hc
    exact (near_fail ⟨b, 0, none⟩ w hg).mono fun e w' ⟨h1, h2⟩ => ⟨⟨_, h1, b, err, rfl, h⟩, h2⟩

def stepCells : List (ByteArray × Int) → List Value
  | [] => []
  | (s, p) :: l => .string s :: .int .i64 p :: stepCells l
theorem stepCells_length : ∀ l : List (ByteArray × Int), (stepCells l).length = l.length * 2
  | [] => rfl
  | (_, _) :: l => by simp [stepCells, stepCells_length l]; omega
theorem stepCells_append : ∀ l m : List (ByteArray × Int), stepCells (l ++ m) = stepCells l ++ stepCells m
  | [], _ => rfl
  | (_, _) :: l, m => by simp [stepCells, stepCells_append l m]

theorem info50 : (Tryz.prog.info? 101).map (fun i => (i.zero, i.size, i.bytes)) = some (some (.agg #[.string ⟨#[]⟩, .int .i64 0]), 2, 24) := by kernel_rfl

/-- A row that a call owns stands while all blocks that were there stand. -/
theorem ownsRow_on {w w' : World} {base : Nat} {e : TypeId} {size : Nat} {v : Value} {n : Nat} {xs : List Value} (h : w.ownsRow base e size v n xs) (hb : Below w.heap.size w w') : w'.ownsRow base e size v n xs := by
  obtain ⟨hl, h⟩ := h
  refine ⟨hl, ?_⟩
  rcases h with h | ⟨g, cap, cur, hv, hg, hh, h⟩
  · exact .inl h
  · refine .inr ⟨g, cap, cur, hv, hg, ?_, h⟩
    rw [hb.block g (by
      rcases Nat.lt_or_ge g w.heap.size with h' | h'
      · exact h'
      · simp [Array.getElem?_eq_none h'] at hh)]
    exact hh

/-- What Path hands back. -/
def PathIs (w : World) (l : List (ByteArray × Int)) (e : Ending) (w' : World) : Prop :=
  ∃ sl, e = .returned sl ∧ w'.ownsRow w.heap.size 101 2 sl l.length (stepCells l) ∧ Below w.heap.size w w'

def PathInv (w : World) (t : Value) (l : List (ByteArray × Int)) (k : Nat) (s3 s4 : Value) (wr : World) : Prop :=
  ∃ done rest, l = done ++ rest ∧ k = rest.length ∧ NearOf w t rest s4 ∧ wr.ownsRow w.heap.size 101 2 s3 done.length (stepCells done) ∧ Below w.heap.size w wr

set_option maxRecDepth 100000 in
set_option maxHeartbeats 4000000 in
theorem path_any (l : List (ByteArray × Int)) (v t : Value) (w : World) (hg : ErrT w) (he : Ends t) (hc : Chain w t l v) (hl : l.length ≤ 100000) :
    Calls Tryz.prog 63 #[v] w (PathIs w l) := by
  obtain ⟨i0, hi0, hz0, hz1, hz2⟩ := info_parts info50
  have HG := Lib.hid hg
  have HE := Lib.hid he
  have HC := Lib.hid hc
  have HL := Lib.hid hl
  clear hg he hc hl
  go_enter Tryz.func63, Tryz.ntmps63
  go_wp2_with fail
  refine (near_chain l v t w _ HG.out HE.out HC.out).mono ?_
  rintro e w1 ⟨⟨p, rfl, hp⟩, hb⟩
  have HP := Lib.hid hp
  have HB := Lib.hid hb
  clear hp hb
  go_wp2
  go_loopg [3, 4] l.length (fun k s3 s4 wr => Hid (PathInv w t l k s3 s4 wr))
  case atStart => exact ⟨[], l, rfl, rfl, HP.out, World.ownsRow_nil _ _ _ _, HB.out⟩
  case round =>
    obtain ⟨done, rest, hl2, hk, hn, hown, hbr⟩ := hrel.out
    cases rest with
    | nil =>
      have hn' : _ = _ := hn
      subst hn'
      have HO := Lib.hid hown
      have HB2 := Lib.hid hbr
      have HL2 := Lib.hid hl2
      clear hown hbr hl2 hk hrel
      go_wp2
      go_ret
      have hl3 := HL2.out
      simp only [List.append_nil] at hl3
      subst hl3
      exact ⟨_, rfl, HO.out, HB2.out⟩
    | cons sp rest =>
      obtain ⟨s, q⟩ := sp
      obtain ⟨b, err, hp2, hlt, h0, h1, h2, hr⟩ := hn
      subst hp2
      have c0 := (hbr.cell (p := ⟨b, 0, none⟩) hlt).trans h0
      have c1 := (hbr.cell (p := ⟨b, 1, none⟩) hlt).trans h1
      have c2 := (hbr.cell (p := ⟨b, 2, none⟩) hlt).trans h2
      have HO := Lib.hid hown
      have HB2 := Lib.hid hbr
      have HL2 := Lib.hid hl2
      have HR := Lib.hid hr
      have HK := Lib.hid hk
      have HLT := Lib.hid hlt
      have H2 := Lib.hid h2
      have ag : u3.ownBlock ≠ some b := fun e => by have := (hown.lt b e).1; omega
      have hdl : done.length ≤ 99999 := by
        have h3 := HL.out
        rw [hl2] at h3
        simp at h3
        omega
      have hbs := hbr.size
      clear hbr hl2 hk hrel hr h0 h1 h2
      have hbw : b < wr.heap.size := by omega
      clear hlt
      go_wp2
      go_region_held3 (fun w' => w'.cell? ⟨b, 0, none⟩ = some (.string s) ∧ w'.cell? ⟨b, 1, none⟩ = some (.int .i64 q))
        (first
          | go_keep
          | (go_split_ands
             refine ⟨?_, ?_⟩
             · (rw [hgrow.cell_far _ (by simp; omega) (Ne.symm ag)]; assumption)
             · (rw [hgrow.cell_far _ (by simp; omega) (Ne.symm ag)]; assumption)))
        ((refine step_append_lies _ (by rfl) _ _ _ (by rfl) w.heap.size 101 i0 _ 2 24 Tryz.underlying98 hi0 hz0 hz1 hz2 rfl (by omega) u3 done.length (stepCells done) (by rfl) ((hown.alloc _).drew)
            ⟨wr.heap.size, 0, none⟩ 1 1 [.string s, .int .i64 q] (by rfl) (by rfl) (World.news_of_block (cs := #[.string s, .int .i64 q]) (t := 101) (fr := (0, 0)) (heap_alloc_new wr _)) (by simp [Value.oneCell'])
            (by omega) (by unfold maxLen; omega) (by omega) (by simp; omega) (wr.heap.size + 1) (by simp) ?_; intro gg cap w2 hown2 hgrow hat hlt2))
      have HB3 : Hid (Below w.heap.size w w2) := Lib.hid (((HB2.out.alloc hbs _).drew).grown hgrow (by simp; omega) (fun k hk => (hown.lt k hk).1))
      have c2' : w2.cell? ⟨b, 2, none⟩ = some err := (HB3.out.cell (p := ⟨b, 2, none⟩) HLT.out).trans H2.out
      have HO2 := Lib.hid hown2
      clear hown2 hgrow hat hlt2 hown c0 c1 c2 ag
      go_wp2_with fail
      refine (near_chain rest err t w _ (HG.out.on HG.out.pos HB3.out) HE.out HR.out).mono ?_
      rintro e w3 ⟨⟨p2, rfl, hp2⟩, hb2⟩
      have HP2 := Lib.hid hp2
      have HB4 := Lib.hid (HB3.out.trans (hb2.mono HB3.out.size))
      have HO3 : Hid (w3.ownsRow w.heap.size 101 2 (.slice (some ⟨gg, 0, none⟩) (done.length + 1) cap) (done.length + 1) (stepCells done ++ [.string s, .int .i64 q])) := Lib.hid (ownsRow_on HO2.out hb2)
      clear hp2 hb2
      go_wp2
      go_roundg rest.length
      case measure => rw [HK.out]; simp
      case rel => exact Lib.hid ⟨done ++ [(s, q)], rest, by rw [HL2.out]; simp, rfl, HP2.out, by simpa [stepCells_append, stepCells] using HO3.out, HB4.out⟩
end Go.Proofs.YtpocjmlkhophoaaGreatDoor
