/- errors.As at a *Fail and at an api.Code, over an error that In has wrapped however often: what it answers, what it stores, and that all older memory stands. -/
import Derived.Test.YtpocjmlkhophoaaGreatDoorRefl
import Derived.Lib.Hide
namespace Go.Proofs.YtpocjmlkhophoaaGreatDoor
open Go.RowKit Go.Extern.Stop Go.Stop Go.Extern

/-- An error that In has wrapped, the outermost step first, down to 't'. -/
def Chain (w : World) (t : Value) : List (ByteArray × Int) → Value → Prop
  | [], v => v = t
  | (s, p) :: l, v => ∃ b err, v = .iface 145 (.pointer (some ⟨b, 0, none⟩)) ∧ b < w.heap.size ∧ w.cell? ⟨b, 0, none⟩ = some (.string s) ∧ w.cell? ⟨b, 1, none⟩ = some (.int .i64 p) ∧ w.cell? ⟨b, 2, none⟩ = some err ∧ Chain w t l err

theorem Chain.on {w w' : World} (h : Below w.heap.size w w') {t : Value} : ∀ {l : List (ByteArray × Int)} {v : Value}, Chain w t l v → Chain w' t l v
  | [], _, hc => hc
  | (_, _) :: _, _, ⟨b, err, e, hb, h0, h1, h2, hr⟩ =>
    ⟨b, err, e, Nat.lt_of_lt_of_le hb h.size, (h.cell (p := ⟨b, 0, none⟩) hb).trans h0, (h.cell (p := ⟨b, 1, none⟩) hb).trans h1, (h.cell (p := ⟨b, 2, none⟩) hb).trans h2, Chain.on h hr⟩

theorem Chain.iface {w : World} {tt : TypeId} {x : Value} : ∀ {l : List (ByteArray × Int)} {v : Value}, Chain w (.iface tt x) l v → ∃ t y, v = .iface t y
  | [], _, hc => ⟨_, _, hc⟩
  | (_, _) :: _, _, ⟨_, _, e, _⟩ => ⟨_, _, e⟩

set_option maxHeartbeats 4000000 in
theorem as_in_code (l : List (ByteArray × Int)) (v : Value) (c : Int) (t a : Addr) (old : Value) (w : World) (hch0 : Chain w (.iface 32 (.int .i64 c)) l v)
    (ha0 : w.cell? a = some (.pointer (some t))) (ht0 : w.cell? t = some old) (hf0 : w.frozen? t = false) :
    Calls Tryz.prog 128 #[v, .iface 125 (.pointer (some t)), .agg #[.pointer (some ⟨4, 125, none⟩), .pointer (some a), .int .u64 150], .iface 200 (.agg #[.pointer (some ⟨4, 32, none⟩)])] w fun e w' =>
      e = .returned (.bool true) ∧ w' = ((w.alloc (.cells #[.pointer (some ⟨4, 125, none⟩), .pointer (some a), .int .u64 150] 167)).alloc (.cells #[.int .i64 c] 32)).setCell t (.int .i64 c) := by
  have hch := Lib.hid hch0
  clear hch0
  have h34 := @run_callFunc_extern Tryz.prog 125 _ (fun args => ReflectliteValue.unpack (args.getD 0 (.tuple #[]))) Tryz.func125 (by kernel_rfl) (by kernel_rfl) (by kernel_rfl) (by kernel_rfl)
  have h32 := @run_callFunc_extern Tryz.prog 156 _ ReflectliteType.typeOf Tryz.func156 (by kernel_rfl) (by kernel_rfl) (by kernel_rfl) (by kernel_rfl)
  have h86 := @run_callFunc_extern Tryz.prog 211 _ (ReflectliteType.relation "AssignableTo" ReflectliteType.assignableTo) Tryz.func211 (by kernel_rfl) (by kernel_rfl) (by kernel_rfl) (by kernel_rfl)
  have h45 := @run_callFunc_extern Tryz.prog 157 _ (ReflectliteValue.method (ReflectliteValue.valueError "reflectlite.Value.Elem" 0) ReflectliteValue.elem) Tryz.func157 (by kernel_rfl) (by kernel_rfl) (by kernel_rfl) (by kernel_rfl)
  have h46 := @run_callFunc_extern Tryz.prog 158 _ ReflectliteValue.set Tryz.func158 (by kernel_rfl) (by kernel_rfl) (by kernel_rfl) (by kernel_rfl)
  have mA := methodAssignableTo
  have mU := methodUnwrap
  have tO := typeOf22
  have tO' := typeOf42
  have a22 := assignable22to22
  have a42 := assignable42to22
  have v22 := valueOf22
  have nA := noAs42
  have hU := hasUnwrap42
  have htl : t.block < w.heap.size := by
    rcases Nat.lt_or_ge t.block w.heap.size with h | h
    · exact h
    · simp [World.cell?, Array.getElem?_eq_none h] at ht0
  have hal : a.block < w.heap.size := by
    rcases Nat.lt_or_ge a.block w.heap.size with h | h
    · exact h
    · simp [World.cell?, Array.getElem?_eq_none h] at ha0
  have el := elemV82 a t (w.alloc (.cells #[.pointer (some ⟨4, 125, none⟩), .pointer (some a), .int .u64 150] 167)) (by rw [World.cell?_alloc_lt _ _ a hal]; exact ha0)
  have st := set22 t ⟨w.heap.size + 1, 0, none⟩ c old ((w.alloc (.cells #[.pointer (some ⟨4, 125, none⟩), .pointer (some a), .int .u64 150] 167)).alloc (.cells #[.int .i64 c] 32))
    (by rw [World.cell?_alloc_at _ _ _ _ (by simp)]; rfl)
    (by rw [World.cell?_alloc_lt _ _ t (by simp; omega), World.cell?_alloc_lt _ _ t htl]; exact ht0)
    (by rw [World.frozen?_alloc_old _ _ t (by simp; omega), World.frozen?_alloc_old _ _ t (Nat.ne_of_lt htl)]; exact hf0)
  clear ha0 ht0 hf0
  go_enter Tryz.func128, Tryz.ntmps128
  go_wp2
  go_loopg [0] l.length (fun k v0 wr => w.alloc (.cells #[.pointer (some ⟨4, 125, none⟩), .pointer (some a), .int .u64 150] 167) = wr ∧ ∃ l', k = l'.length ∧ Hid (Chain w (.iface 32 (.int .i64 c)) l' v0))
  case atStart => exact ⟨rfl, l, rfl, hch⟩
  case round =>
    obtain ⟨rfl, l', rfl, hc'⟩ := hrel
    cases l' with
    | nil =>
      have hv := hc'.out
      simp only [Chain] at hv
      subst hv
      go_wp2
      go_ret
      exact ⟨rfl, rfl⟩
    | cons sp l'' =>
      obtain ⟨s, p⟩ := sp
      obtain ⟨b, err, hv, hb, _, _, h2, hr⟩ := hc'.out
      subst hv
      obtain ⟨te, ye, he⟩ := hr.iface
      have hr' := Lib.hid hr
      subst he
      have h2' : (w.alloc (.cells #[.pointer (some ⟨4, 125, none⟩), .pointer (some a), .int .u64 150] 167)).cell? ⟨b, 2, none⟩ = some (.iface te ye) := by rw [World.cell?_alloc_lt _ _ ⟨b, 2, none⟩ hb]; exact h2
      clear hr hc' h2
      go_wp2_with (go_at_call 206; refine (unwrap_any b _ _ h2').mono ?_; rintro e w' ⟨rfl, rfl⟩)
      go_roundg l''.length
      case measure => simp
      case rel => exact ⟨rfl, l'', rfl, hr'⟩
end Go.Proofs.YtpocjmlkhophoaaGreatDoor
