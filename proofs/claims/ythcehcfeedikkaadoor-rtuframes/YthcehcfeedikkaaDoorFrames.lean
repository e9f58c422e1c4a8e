/- yardlaw8.RtuFrames answers true for every argument; memory that was there stands. -/
import Derived.Test.YthcehcfeedikkaaDoorRf3
namespace Go.Proofs.YthcehcfeedikkaaDoor
open Go.RowKit Go.Extern.Stop Go.Stop Go.Extern

/-- Frame, both: what the program answers and what the document answers, side by side. -/
def FrRes (w : World) (a : Int) (l : List UInt8) (e : Ending) (w' : World) : Prop := ∃ v err, e = .returned (.tuple #[v, err]) ∧ (∃ m : List UInt8, w'.ownsRow w.heap.size 5 1 v m.length (bcells m) ∧ (frCode a l.length = 0 → m = frm (UInt8.ofNat a.toNat) l) ∧ (frCode a l.length ≠ 0 → m = [])) ∧ ((frCode a l.length = 0 ∧ err = .nilIface) ∨ (frCode a l.length ≠ 0 ∧ RErr w' l.length (frCode a l.length) err)) ∧ Below w.heap.size w w'
theorem frame_res (a : Int) (ao : Option Addr) (cap : Nat) (l : List UInt8) (w : World) (hv : BytesAt w (.slice ao l.length cap) l) (hl : l.length ≤ 3000) : Calls Tryd.prog 8 #[.int .i64 a, .slice ao l.length cap] w (FrRes w a l) := by
  by_cases h : frCode a l.length = 0
  · obtain ⟨⟨h1, h2⟩, h3, h4⟩ := frCode_zero.1 h
    obtain ⟨b, rfl⟩ : ∃ b : UInt8, a = (b.toNat : Int) := ⟨UInt8.ofNat a.toNat, by rw [UInt8.toNat_ofNat']; omega⟩
    refine (frame_ok b _ l w hv h3 h4).mono ?_
    rintro e w' ⟨v, rfl, hr, hb⟩
    exact ⟨v, _, rfl, ⟨_, hr, fun _ => by simp, fun k => absurd h k⟩, .inl ⟨h, rfl⟩, hb⟩
  · refine (frame_no a ao l.length cap w (by omega) h).mono ?_
    rintro e w' ⟨v, rfl, hx, hb⟩
    exact ⟨_, v, rfl, ⟨[], World.ownsRow_nil _ _ _ _, fun k => absurd k h, fun _ => rfl⟩, .inr ⟨h, hx⟩, hb⟩
def RFrRes (w : World) (a : Int) (l : List UInt8) (e : Ending) (w' : World) : Prop := ∃ v c sl, e = .returned (.tuple #[v, .agg #[.int .i64 c, sl]]) ∧ (∃ m : List UInt8, w'.ownsRow w.heap.size 5 1 v m.length (bcells m) ∧ (frCode a l.length = 0 → m = frm (UInt8.ofNat a.toNat) l) ∧ (frCode a l.length ≠ 0 → m = [])) ∧ ((frCode a l.length = 0 ∧ c = 0 ∧ sl = .slice none 0 0) ∨ (frCode a l.length ≠ 0 ∧ c = frCode a l.length ∧ StepsOwn w' sl [(sRtu, (l.length : Int))])) ∧ Below w.heap.size w w'
theorem rframe_res (a : Int) (ao : Option Addr) (cap : Nat) (l : List UInt8) (w : World) (hv : BytesAt w (.slice ao l.length cap) l) : Calls Tryd.prog 9 #[.int .i64 a, .slice ao l.length cap] w (RFrRes w a l) := by
  by_cases h : frCode a l.length = 0
  · obtain ⟨⟨h1, h2⟩, h3, h4⟩ := frCode_zero.1 h
    obtain ⟨b, rfl⟩ : ∃ b : UInt8, a = (b.toNat : Int) := ⟨UInt8.ofNat a.toNat, by rw [UInt8.toNat_ofNat']; omega⟩
    refine (rframe_ok b _ l w hv h3 h4).mono ?_
    rintro e w' ⟨v, rfl, hr, hb⟩
    exact ⟨v, _, _, rfl, ⟨_, hr, fun _ => by simp, fun k => absurd h k⟩, .inl ⟨h, rfl, rfl⟩, hb⟩
  · refine (rframe_no a ao l.length cap w h).mono ?_
    rintro e w' ⟨g, rfl, hx, hb⟩
    exact ⟨_, _, _, rfl, ⟨[], World.ownsRow_nil _ _ _ _, fun k => absurd k h, fun _ => rfl⟩, .inr ⟨h, rfl, hx⟩, hb⟩
/-- Open, both. -/
def opRow (l : List UInt8) : List UInt8 := if opCode l = 0 then (l.drop 1).take (l.length - 3) else []
def opAddr (l : List UInt8) : Int := if opCode l = 0 then ((l.headD 0).toNat : Int) else 0
theorem opRow_length {l : List UInt8} (h : opCode l = 0) : (opRow l).length = l.length - 3 := by
  obtain ⟨h4, _, _⟩ := opens_parts h
  unfold opRow
  rw [if_pos h]
  simp
  omega
def OpRes (w : World) (l : List UInt8) (e : Ending) (w' : World) : Prop := ∃ v err, e = .returned (.tuple #[.int .i64 (opAddr l), v, err]) ∧ w'.ownsRow w.heap.size 5 1 v (opRow l).length (bcells (opRow l)) ∧ ((opCode l = 0 ∧ err = .nilIface) ∨ (opCode l ≠ 0 ∧ RErr w' l.length (opCode l) err)) ∧ Below w.heap.size w w'
theorem opNo_res {w w' : World} {l : List UInt8} {c : Int} {e : Ending} (hc : opCode l = c) (h0 : c ≠ 0) (h : OpenNo w l.length c e w') : OpRes w l e w' := by
  obtain ⟨v, rfl, hx, hb⟩ := h
  have h1 : opCode l ≠ 0 := by rw [hc]; exact h0
  exact ⟨_, _, by unfold opAddr; rw [if_neg h1], by unfold opRow; rw [if_neg h1]; exact World.ownsRow_nil _ _ _ _, .inr ⟨h1, by rw [hc]; exact hx⟩, hb⟩
theorem open_res (ao : Option Addr) (cap : Nat) (l : List UInt8) (w : World) (hv : BytesAt w (.slice ao l.length cap) l) (hcap : l.length ≤ cap) : Calls Tryd.prog 10 #[.slice ao l.length cap] w (OpRes w l) := by
  by_cases h4 : l.length < 4
  · exact (open_short ao l.length cap w h4).mono fun e w' h => opNo_res (by unfold opCode; rw [if_pos h4]) (by decide) h
  · by_cases h5 : 256 < l.length
    · exact (open_long ao l.length cap w h5).mono fun e w' h => opNo_res (by unfold opCode; rw [if_neg h4, if_pos h5]) (by decide) h
    · refine (open_any ao cap l w hv hcap (by omega) (by omega)).mono ?_
      rintro e w' ⟨hok, hno⟩
      by_cases h : opCode l = 0
      · obtain ⟨v, rfl, hr, hb⟩ := hok h
        refine ⟨v, _, by unfold opAddr; rw [if_pos h], ?_, .inl ⟨h, rfl⟩, hb⟩
        rw [opRow_length h]
        unfold opRow
        rw [if_pos h]
        exact hr
      · exact opNo_res rfl h (hno h)
def ROpRes (w : World) (l : List UInt8) (e : Ending) (w' : World) : Prop := ∃ v c sl, e = .returned (.tuple #[.int .i64 (opAddr l), v, .agg #[.int .i64 c, sl]]) ∧ w'.ownsRow w.heap.size 5 1 v (opRow l).length (bcells (opRow l)) ∧ ((opCode l = 0 ∧ c = 0 ∧ sl = .slice none 0 0) ∨ (opCode l ≠ 0 ∧ c = opCode l ∧ StepsOwn w' sl [(sRtu, (l.length : Int))])) ∧ Below w.heap.size w w'
theorem ropNo_res {w w' : World} {l : List UInt8} {c : Int} {e : Ending} (hc : opCode l = c) (h0 : c ≠ 0) (h : ROpenNo w l.length c e w') : ROpRes w l e w' := by
  obtain ⟨v, rfl, hx, hb⟩ := h
  have h1 : opCode l ≠ 0 := by rw [hc]; exact h0
  exact ⟨_, _, _, by unfold opAddr; rw [if_neg h1], by unfold opRow; rw [if_neg h1]; exact World.ownsRow_nil _ _ _ _, .inr ⟨h1, hc.symm, hx⟩, hb⟩
theorem ropen_res (ao : Option Addr) (cap : Nat) (l : List UInt8) (w : World) (hv : BytesAt w (.slice ao l.length cap) l) (hcap : l.length ≤ cap) (hl : l.length ≤ 3000) : Calls Tryd.prog 11 #[.slice ao l.length cap] w (ROpRes w l) := by
  by_cases h4 : l.length < 4
  · exact (ropen_short ao l.length cap w h4).mono fun e w' h => ropNo_res (by unfold opCode; rw [if_pos h4]) (by decide) h
  · by_cases h5 : 256 < l.length
    · exact (ropen_long ao l.length cap w h5 (by omega)).mono fun e w' h => ropNo_res (by unfold opCode; rw [if_neg h4, if_pos h5]) (by decide) h
    · refine (ropen_any ao cap l w hv hcap (by omega) (by omega)).mono ?_
      rintro e w' ⟨hok, hno⟩
      by_cases h : opCode l = 0
      · obtain ⟨v, rfl, hr, hb⟩ := hok h
        refine ⟨v, _, _, by unfold opAddr; rw [if_pos h]; rfl, ?_, .inl ⟨h, rfl, rfl⟩, hb⟩
        rw [opRow_length h]
        unfold opRow
        rw [if_pos h]
        exact hr
      · exact ropNo_res rfl h (hno h)
/-- The program's error is the document's. -/
theorem err_same (code x : Int) (err sl : Value) (c : Int) (w : World) (hg : ErrT w) (h : (code = 0 ∧ err = .nilIface) ∨ (code ≠ 0 ∧ RErr w x code err)) (k : (code = 0 ∧ c = 0 ∧ sl = .slice none 0 0) ∨ (code ≠ 0 ∧ c = code ∧ StepsOwn w sl [(sRtu, x)])) : Calls Tryd.prog 13 #[err, .agg #[.int .i64 c, sl]] w (TrueIs w) := by
  rcases h with ⟨h0, rfl⟩ | ⟨h0, hx⟩
  · rcases k with ⟨_, rfl, rfl⟩ | ⟨k0, _⟩
    · exact same_none w hg
    · exact absurd h0 k0
  · rcases k with ⟨k0, _⟩ | ⟨_, rfl, hs⟩
    · exact absurd k0 h0
    · exact same_some _ h0 err sl _ w hg hx.chain hs (by simp)
end Go.Proofs.YthcehcfeedikkaaDoor
