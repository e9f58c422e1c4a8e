/- How structs and arrays of ints are compared by == and !=. -/
import Derived.Test.YtpocjmlkhophoaaGreatDoorBase
import Derived.Laws.StructEq
import Derived.Test.YtpocjmlkhophoaaGreatDoorCfg
import Derived.Test.YtpocjmlkhophoaaGreatDoorGrow
import Derived.Test.YtpocjmlkhophoaaGreatDoorCopyD
import Derived.Test.YtpocjmlkhophoaaGreatDoorCk7
namespace Go.Proofs.YtpocjmlkhophoaaGreatDoor
open Go.RowKit Go.Extern.Stop Go.Stop Go.Extern

theorem part_int (cs : Array Value) (o : Nat) (u : Value) (h : cs[o]? = some u) (w : World) : (part 3 cs o).run Tryz.prog w = .ok u w := by
  have hlt := (Array.getElem?_eq_some_iff.1 h).1
  simp [part, h]
set_option maxRecDepth 100000 in
theorem neq_poll (a0 a1 a2 a3 a4 b0 b1 b2 b3 b4 : Int) (w : World) : (binOp .neq 68 (.agg #[.int .i64 a0, .int .i64 a1, .int .i64 a2, .int .i64 a3, .int .i64 a4]) (.agg #[.int .i64 b0, .int .i64 b1, .int .i64 b2, .int .i64 b3, .int .i64 b4])).run Tryz.prog w = .ok (.bool (!(a0 == b0 && (a1 == b1 && (a2 == b2 && (a3 == b3 && a4 == b4)))))) w := by
  rw [run_neq_struct, show (10000 : Nat) = 9999 + 1 from rfl, run_equalIn_struct w 9999 68 _ _ Tryz.underlying68 (by kernel_rfl)]
  have hf : Tryz.prog.fieldsOf 68 = #[{ name := "Slave", type := 3, offset := 0, embedded := false, tag := "", pkgPath := "", byteOffset := 0 }, { name := "Func", type := 3, offset := 1, embedded := false, tag := "", pkgPath := "", byteOffset := 8 }, { name := "Start", type := 3, offset := 2, embedded := false, tag := "", pkgPath := "", byteOffset := 16 }, { name := "Count", type := 3, offset := 3, embedded := false, tag := "", pkgPath := "", byteOffset := 24 }, { name := "Every", type := 3, offset := 4, embedded := false, tag := "", pkgPath := "", byteOffset := 32 }] := by kernel_rfl
  rw [hf, show (9999 : Nat) = 9998 + 1 from rfl]
  simp [Op.eqFields, run_equalIn_int _ 9998 3 .i64 .i64 _ _ Tryz.underlying3, go_sem]
  by_cases h0 : a0 = b0
  case neg => simp [h0]
  simp only [h0, if_true, beq_self_eq_true, Bool.not_true, Bool.false_or]
  by_cases h1 : a1 = b1
  case neg => simp [h1]
  simp only [h1, if_true, beq_self_eq_true, Bool.not_true, Bool.false_or]
  by_cases h2 : a2 = b2
  case neg => simp [h2]
  simp only [h2, if_true, beq_self_eq_true, Bool.not_true, Bool.false_or]
  by_cases h3 : a3 = b3
  case neg => simp [h3]
  simp only [h3, if_true, beq_self_eq_true, Bool.not_true, Bool.false_or]
  by_cases h4 : a4 = b4 <;> simp [h4]
set_option maxRecDepth 100000 in
theorem neq_point (a0 a1 a2 a3 a4 a5 a6 a7 b0 b1 b2 b3 b4 b5 b6 b7 : Int) (w : World) : (binOp .neq 62 (.agg #[.int .i64 a0, .int .i64 a1, .int .i64 a2, .int .i64 a3, .int .i64 a4, .int .i64 a5, .int .i64 a6, .int .i64 a7]) (.agg #[.int .i64 b0, .int .i64 b1, .int .i64 b2, .int .i64 b3, .int .i64 b4, .int .i64 b5, .int .i64 b6, .int .i64 b7])).run Tryz.prog w = .ok (.bool (!(a0 == b0 && (a1 == b1 && (a2 == b2 && (a3 == b3 && (a4 == b4 && (a5 == b5 && (a6 == b6 && a7 == b7))))))))) w := by
  rw [run_neq_struct, show (10000 : Nat) = 9999 + 1 from rfl, run_equalIn_struct w 9999 62 _ _ Tryz.underlying62 (by kernel_rfl)]
  have hf : Tryz.prog.fieldsOf 62 = #[{ name := "Kind", type := 3, offset := 0, embedded := false, tag := "", pkgPath := "", byteOffset := 0 }, { name := "Poll", type := 3, offset := 1, embedded := false, tag := "", pkgPath := "", byteOffset := 8 }, { name := "Place", type := 3, offset := 2, embedded := false, tag := "", pkgPath := "", byteOffset := 16 }, { name := "Class", type := 3, offset := 3, embedded := false, tag := "", pkgPath := "", byteOffset := 24 }, { name := "Dead", type := 3, offset := 4, embedded := false, tag := "", pkgPath := "", byteOffset := 32 }, { name := "Num", type := 3, offset := 5, embedded := false, tag := "", pkgPath := "", byteOffset := 40 }, { name := "Den", type := 3, offset := 6, embedded := false, tag := "", pkgPath := "", byteOffset := 48 }, { name := "Off", type := 3, offset := 7, embedded := false, tag := "", pkgPath := "", byteOffset := 56 }] := by kernel_rfl
  rw [hf, show (9999 : Nat) = 9998 + 1 from rfl]
  simp [Op.eqFields, run_equalIn_int _ 9998 3 .i64 .i64 _ _ Tryz.underlying3, go_sem]
  by_cases h0 : a0 = b0
  case neg => simp [h0]
  simp only [h0, if_true, beq_self_eq_true, Bool.not_true, Bool.false_or]
  by_cases h1 : a1 = b1
  case neg => simp [h1]
  simp only [h1, if_true, beq_self_eq_true, Bool.not_true, Bool.false_or]
  by_cases h2 : a2 = b2
  case neg => simp [h2]
  simp only [h2, if_true, beq_self_eq_true, Bool.not_true, Bool.false_or]
  by_cases h3 : a3 = b3
  case neg => simp [h3]
  simp only [h3, if_true, beq_self_eq_true, Bool.not_true, Bool.false_or]
  by_cases h4 : a4 = b4
  case neg => simp [h4]
  simp only [h4, if_true, beq_self_eq_true, Bool.not_true, Bool.false_or]
  by_cases h5 : a5 = b5
  case neg => simp [h5]
  simp only [h5, if_true, beq_self_eq_true, Bool.not_true, Bool.false_or]
  by_cases h6 : a6 = b6
  case neg => simp [h6]
  simp only [h6, if_true, beq_self_eq_true, Bool.not_true, Bool.false_or]
  by_cases h7 : a7 = b7 <;> simp [h7]
set_option maxRecDepth 100000 in
theorem neq_ctl (a0 a1 a2 b0 b1 b2 : Int) (w : World) : (binOp .neq 70 (.agg #[.int .i64 a0, .int .i64 a1, .int .i64 a2]) (.agg #[.int .i64 b0, .int .i64 b1, .int .i64 b2])).run Tryz.prog w = .ok (.bool (!(a0 == b0 && (a1 == b1 && a2 == b2)))) w := by
  rw [run_neq_struct, show (10000 : Nat) = 9999 + 1 from rfl, run_equalIn_struct w 9999 70 _ _ Tryz.underlying70 (by kernel_rfl)]
  have hf : Tryz.prog.fieldsOf 70 = #[{ name := "Kind", type := 3, offset := 0, embedded := false, tag := "", pkgPath := "", byteOffset := 0 }, { name := "Slave", type := 3, offset := 1, embedded := false, tag := "", pkgPath := "", byteOffset := 8 }, { name := "Reg", type := 3, offset := 2, embedded := false, tag := "", pkgPath := "", byteOffset := 16 }] := by kernel_rfl
  rw [hf, show (9999 : Nat) = 9998 + 1 from rfl]
  simp [Op.eqFields, run_equalIn_int _ 9998 3 .i64 .i64 _ _ Tryz.underlying3, go_sem]
  by_cases h0 : a0 = b0
  case neg => simp [h0]
  simp only [h0, if_true, beq_self_eq_true, Bool.not_true, Bool.false_or]
  by_cases h1 : a1 = b1
  case neg => simp [h1]
  simp only [h1, if_true, beq_self_eq_true, Bool.not_true, Bool.false_or]
  by_cases h2 : a2 = b2 <;> simp [h2]
theorem forIn_range_3 {β : Type} (b : β) (f : Nat → β → Sem (ForInStep β)) : (forIn [:3] b f : Sem β) = forIn [0, 1, 2] b f := by
  rw [Std.Legacy.Range.forIn_eq_forIn_range']
  rfl
theorem forIn_range_9 {β : Type} (b : β) (f : Nat → β → Sem (ForInStep β)) : (forIn [:9] b f : Sem β) = forIn [0, 1, 2, 3, 4, 5, 6, 7, 8] b f := by
  rw [Std.Legacy.Range.forIn_eq_forIn_range']
  rfl
set_option maxRecDepth 100000 in
theorem arr_room (d : Nat) (a0 a1 a2 b0 b1 b2 : Int) (w : World) : (Op.equalIn (d + 1 + 1) 22 (.agg #[.int .i64 a0, .int .i64 a1, .int .i64 a2]) (.agg #[.int .i64 b0, .int .i64 b1, .int .i64 b2])).run Tryz.prog w = .ok (a0 == b0 && (a1 == b1 && a2 == b2)) w := by
  rw [Op.equalIn]
  simp only [Sem.run_bind, run_underlying Tryz.underlying22, Result.andThen_ok]
  have hs : (sizeOf 3).run Tryz.prog w = .ok 1 w := by kernel_rfl
  rw [hs]
  simp only [Result.andThen_ok, forIn_range_3]
  simp [run_equalIn_int _ d 3 .i64 .i64 _ _ Tryz.underlying3, go_sem]
  by_cases h0 : a0 = b0
  case neg => simp [h0]
  simp only [h0, if_true, beq_self_eq_true, Bool.true_and]
  by_cases h1 : a1 = b1
  case neg => simp [h1]
  simp only [h1, if_true, beq_self_eq_true, Bool.true_and]
  by_cases h2 : a2 = b2 <;> simp [h2]
theorem eql_room (a0 a1 a2 b0 b1 b2 : Int) (w : World) : (binOp .eql 22 (.agg #[.int .i64 a0, .int .i64 a1, .int .i64 a2]) (.agg #[.int .i64 b0, .int .i64 b1, .int .i64 b2])).run Tryz.prog w = .ok (.bool ((a0 == b0 && (a1 == b1 && a2 == b2)))) w := by
  rw [run_eql_struct, show (10000 : Nat) = 9998 + 1 + 1 from rfl, arr_room]
  rfl
theorem neq_room (a0 a1 a2 b0 b1 b2 : Int) (w : World) : (binOp .neq 22 (.agg #[.int .i64 a0, .int .i64 a1, .int .i64 a2]) (.agg #[.int .i64 b0, .int .i64 b1, .int .i64 b2])).run Tryz.prog w = .ok (.bool (!(a0 == b0 && (a1 == b1 && a2 == b2)))) w := by
  rw [run_neq_struct, show (10000 : Nat) = 9998 + 1 + 1 from rfl, arr_room]
  rfl
set_option maxRecDepth 100000 in
theorem arr_nums (d : Nat) (a0 a1 a2 a3 a4 a5 a6 a7 a8 b0 b1 b2 b3 b4 b5 b6 b7 b8 : Int) (w : World) : (Op.equalIn (d + 1 + 1) 118 (.agg #[.int .i64 a0, .int .i64 a1, .int .i64 a2, .int .i64 a3, .int .i64 a4, .int .i64 a5, .int .i64 a6, .int .i64 a7, .int .i64 a8]) (.agg #[.int .i64 b0, .int .i64 b1, .int .i64 b2, .int .i64 b3, .int .i64 b4, .int .i64 b5, .int .i64 b6, .int .i64 b7, .int .i64 b8])).run Tryz.prog w = .ok (a0 == b0 && (a1 == b1 && (a2 == b2 && (a3 == b3 && (a4 == b4 && (a5 == b5 && (a6 == b6 && (a7 == b7 && a8 == b8)))))))) w := by
  rw [Op.equalIn]
  simp only [Sem.run_bind, run_underlying Tryz.underlying118, Result.andThen_ok]
  have hs : (sizeOf 3).run Tryz.prog w = .ok 1 w := by kernel_rfl
  rw [hs]
  simp only [Result.andThen_ok, forIn_range_9]
  simp [run_equalIn_int _ d 3 .i64 .i64 _ _ Tryz.underlying3, go_sem]
  by_cases h0 : a0 = b0
  case neg => simp [h0]
  simp only [h0, if_true, beq_self_eq_true, Bool.true_and]
  by_cases h1 : a1 = b1
  case neg => simp [h1]
  simp only [h1, if_true, beq_self_eq_true, Bool.true_and]
  by_cases h2 : a2 = b2
  case neg => simp [h2]
  simp only [h2, if_true, beq_self_eq_true, Bool.true_and]
  by_cases h3 : a3 = b3
  case neg => simp [h3]
  simp only [h3, if_true, beq_self_eq_true, Bool.true_and]
  by_cases h4 : a4 = b4
  case neg => simp [h4]
  simp only [h4, if_true, beq_self_eq_true, Bool.true_and]
  by_cases h5 : a5 = b5
  case neg => simp [h5]
  simp only [h5, if_true, beq_self_eq_true, Bool.true_and]
  by_cases h6 : a6 = b6
  case neg => simp [h6]
  simp only [h6, if_true, beq_self_eq_true, Bool.true_and]
  by_cases h7 : a7 = b7
  case neg => simp [h7]
  simp only [h7, if_true, beq_self_eq_true, Bool.true_and]
  by_cases h8 : a8 = b8 <;> simp [h8]
theorem eql_nums (a0 a1 a2 a3 a4 a5 a6 a7 a8 b0 b1 b2 b3 b4 b5 b6 b7 b8 : Int) (w : World) : (binOp .eql 118 (.agg #[.int .i64 a0, .int .i64 a1, .int .i64 a2, .int .i64 a3, .int .i64 a4, .int .i64 a5, .int .i64 a6, .int .i64 a7, .int .i64 a8]) (.agg #[.int .i64 b0, .int .i64 b1, .int .i64 b2, .int .i64 b3, .int .i64 b4, .int .i64 b5, .int .i64 b6, .int .i64 b7, .int .i64 b8])).run Tryz.prog w = .ok (.bool ((a0 == b0 && (a1 == b1 && (a2 == b2 && (a3 == b3 && (a4 == b4 && (a5 == b5 && (a6 == b6 && (a7 == b7 && a8 == b8)))))))))) w := by
  rw [run_eql_struct, show (10000 : Nat) = 9998 + 1 + 1 from rfl, arr_nums]
  rfl
end Go.Proofs.YtpocjmlkhophoaaGreatDoor
/- Are two configurations alike, field by field: as plain values. -/
namespace Go.Proofs.YtpocjmlkhophoaaGreatDoor
open Go.RowKit Go.Extern.Stop Go.Stop Go.Extern

def eqL {α : Type} (f : α → α → Bool) : List α → List α → Bool
  | [], [] => true
  | x :: l, y :: m => f x y && eqL f l m
  | _, _ => false
theorem eqL_iff {α : Type} (f : α → α → Bool) (hf : ∀ x y, f x y = true ↔ x = y) : ∀ l m, eqL f l m = true ↔ l = m
  | [], [] => by simp [eqL]
  | x :: l, y :: m => by simp [eqL, hf, eqL_iff f hf l m]
  | [], y :: m => by simp [eqL]
  | x :: l, [] => by simp [eqL]
/-- Lists that are alike up to i, and not there. -/
theorem eqL_ne {α : Type} (f : α → α → Bool) : ∀ (l m : List α) (i : Nat) (h1 : i < l.length) (h2 : i < m.length), f l[i] m[i] = false → eqL f l m = false
  | x :: l, y :: m, 0, _, _, h => by
    simp at h
    simp [eqL, h]
  | x :: l, y :: m, i + 1, h1, h2, h => by
    simp at h1 h2 h
    simp [eqL, eqL_ne f l m i h1 h2 h]
  | [], _, i, h1, _, _ => by simp at h1
  | _ :: _, [], i, _, h2, _ => by simp at h2
theorem eqL_len {α : Type} (f : α → α → Bool) : ∀ (l m : List α), l.length ≠ m.length → eqL f l m = false
  | [], [], h => by simp at h
  | x :: l, y :: m, h => by
    simp at h
    simp [eqL, eqL_len f l m (by omega)]
  | [], y :: m, _ => rfl
  | x :: l, [], _ => rfl
theorem eqL_all {α : Type} (f : α → α → Bool) : ∀ (l m : List α), l.length = m.length → (∀ i (h1 : i < l.length) (h2 : i < m.length), f l[i] m[i] = true) → eqL f l m = true
  | [], [], _, _ => rfl
  | x :: l, y :: m, h, ha => by
    have h0 := ha 0 (by simp) (by simp)
    simp at h0 h
    simp only [eqL, h0, Bool.true_and]
    refine eqL_all f l m h fun i h1 h2 => ?_
    have := ha (i + 1) (by simpa using h1) (by simpa using h2)
    simpa using this
  | [], y :: m, h, _ => by simp at h
  | x :: l, [], h, _ => by simp at h
def pollEq (a b : Poll) : Bool := a.slave == b.slave && (a.func == b.func && (a.start == b.start && (a.count == b.count && a.every == b.every)))
def ptEq (a b : Pt) : Bool := a.kind == b.kind && (a.poll == b.poll && (a.place == b.place && (a.cls == b.cls && (a.dead == b.dead && (a.num == b.num && (a.den == b.den && a.off == b.off))))))
def ctlEq (a b : Ctl) : Bool := a.kind == b.kind && (a.slave == b.slave && a.reg == b.reg)
def intEq (a b : Int) : Bool := a == b
theorem pollEq_iff (a b : Poll) : pollEq a b = true ↔ a = b := by cases a; cases b; simp [pollEq]
theorem ptEq_iff (a b : Pt) : ptEq a b = true ↔ a = b := by cases a; cases b; simp [ptEq]
theorem ctlEq_iff (a b : Ctl) : ctlEq a b = true ↔ a = b := by cases a; cases b; simp [ctlEq]
theorem intEq_iff (a b : Int) : intEq a b = true ↔ a = b := by simp [intEq]
/-- The nine numbers, and the rooms. -/
def numsEq (a b : Cfg) : Bool := a.own == b.own && (a.master == b.master && (a.reply == b.reply && (a.silence == b.silence && (a.retries == b.retries && (a.offline == b.offline && (a.select == b.select && (a.confirm == b.confirm && a.frag == b.frag)))))))
def roomEq (a b : Cfg) : Bool := a.r0 == b.r0 && (a.r1 == b.r1 && a.r2 == b.r2)
def unsEq (a b : Cfg) : Bool := a.unsol == b.unsol
/-- Are they alike? -/
def sameN (a b : Cfg) : Bool := numsEq a b && (unsEq a b && (roomEq a b && (eqL intEq a.slaves b.slaves && (eqL pollEq a.polls b.polls && (eqL ptEq a.points b.points && eqL ctlEq a.ctls b.ctls)))))
theorem sameN_iff (a b : Cfg) : sameN a b = true ↔ a = b := by
  cases a; cases b
  simp [sameN, numsEq, roomEq, unsEq, eqL_iff intEq intEq_iff, eqL_iff pollEq pollEq_iff, eqL_iff ptEq ptEq_iff, eqL_iff ctlEq ctlEq_iff]
  constructor
  · rintro ⟨⟨_, _, _, _, _, _, _, _, _⟩, _, ⟨_, _, _⟩, _, _, _, _⟩
    simp_all
  · rintro ⟨_, _, _, _, _, _, _, _, _, _, _, _, _, _, _, _, _⟩
    simp_all
theorem sameN_self (a : Cfg) : sameN a a = true := (sameN_iff a a).2 rfl
theorem sameN_comm (a b : Cfg) : sameN a b = sameN b a := by
  rcases Bool.eq_false_or_eq_true (sameN a b) with h | h <;> rcases Bool.eq_false_or_eq_true (sameN b a) with k | k
  · rw [h, k]
  · have := (sameN_iff a b).1 h
    subst this
    rw [h] at k
  · have := (sameN_iff b a).1 k
    subst this
    rw [h] at k
  · rw [h, k]
theorem sameN_ne {a b : Cfg} (h : a ≠ b) : sameN a b = false := by
  rw [← Bool.not_eq_true, sameN_iff]
  exact h
end Go.Proofs.YtpocjmlkhophoaaGreatDoor
/- yardref.Ints, samePoll, samePoint; slices.Equal at ints, polls, points and controls: what each answers; nothing is turned. -/
namespace Go.Proofs.YtpocjmlkhophoaaGreatDoor
open Go.RowKit Go.Extern.Stop Go.Stop Go.Extern

theorem sub_nil {α : Type} (l : List α) : 0 ≤ l.length := Nat.zero_le _
/-- Alike up to a place. -/
def EqTo {α : Type} (f : α → α → Bool) (l m : List α) (i : Nat) : Prop := i ≤ l.length ∧ ∀ j (h1 : j < l.length) (h2 : j < m.length), j < i → f l[j] m[j] = true
theorem eqTo_zero {α : Type} (f : α → α → Bool) (l m : List α) : EqTo f l m 0 := ⟨Nat.zero_le _, fun _ _ _ h => by omega⟩
theorem EqTo.next {α : Type} {f : α → α → Bool} {l m : List α} {i : Nat} (h : EqTo f l m i) (h1 : i < l.length) (h2 : i < m.length) (h3 : f l[i] m[i] = true) : EqTo f l m (i + 1) := ⟨by omega, fun j k1 k2 hj => by
  rcases Nat.lt_or_ge j i with h' | h'
  · exact h.2 j k1 k2 h'
  · have : j = i := by omega
    subst this
    exact h3⟩
theorem EqTo.all {α : Type} {f : α → α → Bool} {l m : List α} {i : Nat} (h : EqTo f l m i) (hi : ¬ i < l.length) (hlen : l.length = m.length) : eqL f l m = true := eqL_all f l m hlen fun j h1 h2 => h.2 j h1 h2 (by omega)

theorem next_i64' (i : Nat) (h : i < 1000000) : Value.int .i64 (wrap64 ((i : Int) + 1)) = .int .i64 ((i + 1 : Nat) : Int) := by
  congr 1
  unfold wrap64
  omega
set_option maxRecDepth 100000 in
set_option maxHeartbeats 4000000 in
theorem eq_ints (l m : List Int) (x y : Value) (w : World) (hx : LiesAt w x l.length (icells l)) (hy : LiesAt w y m.length (icells m)) (hl : l.length ≤ 1000) (hm : m.length ≤ 1000) : Calls Tryz.prog 79 #[x, y] w fun e w' => e = .returned (.bool (eqL intEq l m)) ∧ Below w.heap.size w w' := by
  have HX := Lib.hid hx
  have HY := Lib.hid hy
  obtain ⟨a1, q1, rfl, _⟩ := hx.form
  obtain ⟨a2, q2, rfl, _⟩ := hy.form
  have HL := Lib.hid (And.intro hl hm)
  clear hx hy hl hm
  by_cases hlen : l.length = m.length
  case neg =>
    have HR := Lib.hid (eqL_len intEq l m hlen)
    rw [HR.out]
    have hne : ((l.length : Int) != (m.length : Int)) = true := by simp; omega
    clear HR hlen
    go_enter Tryz.func79, Tryz.ntmps79
    go_wp2
    go_ret
    exact ⟨rfl, Below.refl _ _⟩
  have hne0 : ((l.length : Int) != (m.length : Int)) = false := by simp; omega
  have HLEN := Lib.hid hlen
  clear hlen
  go_enter Tryz.func79, Tryz.ntmps79
  go_wp2
  go_loopg [13] l.length (fun k s13 wr => ∃ i : Nat, i ≤ l.length ∧ k = l.length - i ∧ s13 = .int .i64 (i : Int) ∧ Hid (EqTo intEq l m i ∧ Below w.heap.size w wr))
  case atStart => exact ⟨0, Nat.zero_le _, rfl, rfl, Lib.hid ⟨eqTo_zero _ _ _, Below.refl _ _⟩⟩
  case round =>
    obtain ⟨i, hi, rfl, rfl, HI⟩ := hrel
    have HX := Lib.hid (HX.out.on HI.out.2)
    have HY := Lib.hid (HY.out.on HI.out.2)
    by_cases hlt : i < l.length
    · have hlt2 : i < m.length := by have := HLEN.out; omega
      obtain ⟨b1, o1, rfl, at1⟩ := lies_cells HX.out (icells_get l i hlt)
      obtain ⟨b2, o2, rfl, at2⟩ := lies_cells HY.out (icells_get m i hlt2)
      have p0 := at1 _ _ (icells_get l i hlt)
      have r0 := at2 _ _ (icells_get m i hlt2)
      clear at1 at2
      have HN : Hid (intEq l[i] m[i] = true → EqTo intEq l m (i + 1)) := Lib.hid (HI.out.1.next hlt hlt2)
      have HE : Hid (intEq l[i] m[i] = false → eqL intEq l m = false) := Lib.hid (eqL_ne intEq l m i hlt hlt2)
      have HB := Lib.hid HI.out.2
      have HJ := Lib.hid (show i < 1000000 by have := HL.out.1; omega)
      clear HI
      generalize l[i] = y at *
      generalize m[i] = z at *
      rcases Bool.eq_false_or_eq_true (intEq y z) with h0 | h0
      · have HN2 := Lib.hid (HN.out h0)
        clear HN HE
        have hyz : (y != z) = false := by simpa [intEq] using h0
        clear h0
        go_wp2
        go_quiet (fail)
        go_wp2
        go_roundg (l.length - (i + 1))
        case measure => omega
        case rel => exact ⟨i + 1, by omega, rfl, next_i64' i HJ.out, Lib.hid ⟨HN2.out, HB.out.trans ((below_drewN (Below.refl _ _) _).mono HB.out.size)⟩⟩
      · have HE2 := Lib.hid (HE.out h0)
        clear HN HE
        have hyz : (y != z) = true := by simpa [intEq] using h0
        clear h0
        go_wp2
        go_quiet (fail)
        go_wp2
        go_ret
        rw [HE2.out]
        exact ⟨rfl, HB.out.trans ((below_drewN (Below.refl _ _) _).mono HB.out.size)⟩
    · have HR := Lib.hid (HI.out.1.all hlt HLEN.out)
      go_wp2
      go_ret
      rw [HR.out]
      exact ⟨rfl, HI.out.2⟩

set_option maxRecDepth 100000 in
set_option maxHeartbeats 4000000 in
theorem eq_polls (l m : List Poll) (x y : Value) (w : World) (hx : LiesAt w x l.length (pollCells l)) (hy : LiesAt w y m.length (pollCells m)) (hl : l.length ≤ 1000) (hm : m.length ≤ 1000) : Calls Tryz.prog 80 #[x, y] w fun e w' => e = .returned (.bool (eqL pollEq l m)) ∧ Below w.heap.size w w' := by
  have HX := Lib.hid hx
  have HY := Lib.hid hy
  obtain ⟨a1, q1, rfl, _⟩ := hx.form
  obtain ⟨a2, q2, rfl, _⟩ := hy.form
  have HL := Lib.hid (And.intro hl hm)
  clear hx hy hl hm
  by_cases hlen : l.length = m.length
  case neg =>
    have HR := Lib.hid (eqL_len pollEq l m hlen)
    rw [HR.out]
    have hne : ((l.length : Int) != (m.length : Int)) = true := by simp; omega
    clear HR hlen
    go_enter Tryz.func80, Tryz.ntmps80
    go_wp2
    go_ret
    exact ⟨rfl, Below.refl _ _⟩
  have hne0 : ((l.length : Int) != (m.length : Int)) = false := by simp; omega
  have HLEN := Lib.hid hlen
  clear hlen
  go_enter Tryz.func80, Tryz.ntmps80
  go_wp2
  go_loopg [13] l.length (fun k s13 wr => ∃ i : Nat, i ≤ l.length ∧ k = l.length - i ∧ s13 = .int .i64 (i : Int) ∧ Hid (EqTo pollEq l m i ∧ Below w.heap.size w wr))
  case atStart => exact ⟨0, Nat.zero_le _, rfl, rfl, Lib.hid ⟨eqTo_zero _ _ _, Below.refl _ _⟩⟩
  case round =>
    obtain ⟨i, hi, rfl, rfl, HI⟩ := hrel
    have HX := Lib.hid (HX.out.on HI.out.2)
    have HY := Lib.hid (HY.out.on HI.out.2)
    by_cases hlt : i < l.length
    · have hlt2 : i < m.length := by have := HLEN.out; omega
      obtain ⟨b1, o1, rfl, p0, p1, p2, p3, p4⟩ := row5_of HX.out i hlt
      obtain ⟨b2, o2, rfl, r0, r1, r2, r3, r4⟩ := row5_of HY.out i hlt2
      have HN : Hid (pollEq l[i] m[i] = true → EqTo pollEq l m (i + 1)) := Lib.hid (HI.out.1.next hlt hlt2)
      have HE : Hid (pollEq l[i] m[i] = false → eqL pollEq l m = false) := Lib.hid (eqL_ne pollEq l m i hlt hlt2)
      have HB := Lib.hid HI.out.2
      have HJ := Lib.hid (show i < 1000000 by have := HL.out.1; omega)
      clear HI
      generalize l[i] = y at *
      generalize m[i] = z at *
      have hne : ∀ w, (binOp .neq 68 (.agg #[.int .i64 y.slave, .int .i64 y.func, .int .i64 y.start, .int .i64 y.count, .int .i64 y.every]) (.agg #[.int .i64 z.slave, .int .i64 z.func, .int .i64 z.start, .int .i64 z.count, .int .i64 z.every])).run Tryz.prog w = .ok (.bool (!pollEq y z)) w := neq_poll y.slave y.func y.start y.count y.every z.slave z.func z.start z.count z.every
      rcases Bool.eq_false_or_eq_true (pollEq y z) with h0 | h0
      · have HN2 := Lib.hid (HN.out h0)
        clear HN HE
        rw [h0] at hne
        clear h0
        go_wp2
        go_quiet (fail)
        go_wp2
        go_roundg (l.length - (i + 1))
        case measure => omega
        case rel => exact ⟨i + 1, by omega, rfl, next_i64' i HJ.out, Lib.hid ⟨HN2.out, HB.out.trans ((below_drewN (Below.refl _ _) _).mono HB.out.size)⟩⟩
      · have HE2 := Lib.hid (HE.out h0)
        clear HN HE
        rw [h0] at hne
        clear h0
        go_wp2
        go_quiet (fail)
        go_wp2
        go_ret
        rw [HE2.out]
        exact ⟨rfl, HB.out.trans ((below_drewN (Below.refl _ _) _).mono HB.out.size)⟩
    · have HR := Lib.hid (HI.out.1.all hlt HLEN.out)
      go_wp2
      go_ret
      rw [HR.out]
      exact ⟨rfl, HI.out.2⟩

set_option maxRecDepth 100000 in
set_option maxHeartbeats 4000000 in
theorem eq_points (l m : List Pt) (x y : Value) (w : World) (hx : LiesAt w x l.length (ptCells l)) (hy : LiesAt w y m.length (ptCells m)) (hl : l.length ≤ 1000) (hm : m.length ≤ 1000) : Calls Tryz.prog 81 #[x, y] w fun e w' => e = .returned (.bool (eqL ptEq l m)) ∧ Below w.heap.size w w' := by
  have HX := Lib.hid hx
  have HY := Lib.hid hy
  obtain ⟨a1, q1, rfl, _⟩ := hx.form
  obtain ⟨a2, q2, rfl, _⟩ := hy.form
  have HL := Lib.hid (And.intro hl hm)
  clear hx hy hl hm
  by_cases hlen : l.length = m.length
  case neg =>
    have HR := Lib.hid (eqL_len ptEq l m hlen)
    rw [HR.out]
    have hne : ((l.length : Int) != (m.length : Int)) = true := by simp; omega
    clear HR hlen
    go_enter Tryz.func81, Tryz.ntmps81
    go_wp2
    go_ret
    exact ⟨rfl, Below.refl _ _⟩
  have hne0 : ((l.length : Int) != (m.length : Int)) = false := by simp; omega
  have HLEN := Lib.hid hlen
  clear hlen
  go_enter Tryz.func81, Tryz.ntmps81
  go_wp2
  go_loopg [13] l.length (fun k s13 wr => ∃ i : Nat, i ≤ l.length ∧ k = l.length - i ∧ s13 = .int .i64 (i : Int) ∧ Hid (EqTo ptEq l m i ∧ Below w.heap.size w wr))
  case atStart => exact ⟨0, Nat.zero_le _, rfl, rfl, Lib.hid ⟨eqTo_zero _ _ _, Below.refl _ _⟩⟩
  case round =>
    obtain ⟨i, hi, rfl, rfl, HI⟩ := hrel
    have HX := Lib.hid (HX.out.on HI.out.2)
    have HY := Lib.hid (HY.out.on HI.out.2)
    by_cases hlt : i < l.length
    · have hlt2 : i < m.length := by have := HLEN.out; omega
      obtain ⟨b1, o1, rfl, p0, p1, p2, p3, p4, p5, p6, p7⟩ := row8_of HX.out i hlt
      obtain ⟨b2, o2, rfl, r0, r1, r2, r3, r4, r5, r6, r7⟩ := row8_of HY.out i hlt2
      have HN : Hid (ptEq l[i] m[i] = true → EqTo ptEq l m (i + 1)) := Lib.hid (HI.out.1.next hlt hlt2)
      have HE : Hid (ptEq l[i] m[i] = false → eqL ptEq l m = false) := Lib.hid (eqL_ne ptEq l m i hlt hlt2)
      have HB := Lib.hid HI.out.2
      have HJ := Lib.hid (show i < 1000000 by have := HL.out.1; omega)
      clear HI
      generalize l[i] = y at *
      generalize m[i] = z at *
      have hne : ∀ w, (binOp .neq 62 (.agg #[.int .i64 y.kind, .int .i64 y.poll, .int .i64 y.place, .int .i64 y.cls, .int .i64 y.dead, .int .i64 y.num, .int .i64 y.den, .int .i64 y.off]) (.agg #[.int .i64 z.kind, .int .i64 z.poll, .int .i64 z.place, .int .i64 z.cls, .int .i64 z.dead, .int .i64 z.num, .int .i64 z.den, .int .i64 z.off])).run Tryz.prog w = .ok (.bool (!ptEq y z)) w := neq_point y.kind y.poll y.place y.cls y.dead y.num y.den y.off z.kind z.poll z.place z.cls z.dead z.num z.den z.off
      rcases Bool.eq_false_or_eq_true (ptEq y z) with h0 | h0
      · have HN2 := Lib.hid (HN.out h0)
        clear HN HE
        rw [h0] at hne
        clear h0
        go_wp2
        go_quiet (fail)
        go_wp2
        go_roundg (l.length - (i + 1))
        case measure => omega
        case rel => exact ⟨i + 1, by omega, rfl, next_i64' i HJ.out, Lib.hid ⟨HN2.out, HB.out.trans ((below_drewN (Below.refl _ _) _).mono HB.out.size)⟩⟩
      · have HE2 := Lib.hid (HE.out h0)
        clear HN HE
        rw [h0] at hne
        clear h0
        go_wp2
        go_quiet (fail)
        go_wp2
        go_ret
        rw [HE2.out]
        exact ⟨rfl, HB.out.trans ((below_drewN (Below.refl _ _) _).mono HB.out.size)⟩
    · have HR := Lib.hid (HI.out.1.all hlt HLEN.out)
      go_wp2
      go_ret
      rw [HR.out]
      exact ⟨rfl, HI.out.2⟩

set_option maxRecDepth 100000 in
set_option maxHeartbeats 4000000 in
theorem eq_ctls (l m : List Ctl) (x y : Value) (w : World) (hx : LiesAt w x l.length (ctlCells l)) (hy : LiesAt w y m.length (ctlCells m)) (hl : l.length ≤ 1000) (hm : m.length ≤ 1000) : Calls Tryz.prog 82 #[x, y] w fun e w' => e = .returned (.bool (eqL ctlEq l m)) ∧ Below w.heap.size w w' := by
  have HX := Lib.hid hx
  have HY := Lib.hid hy
  obtain ⟨a1, q1, rfl, _⟩ := hx.form
  obtain ⟨a2, q2, rfl, _⟩ := hy.form
  have HL := Lib.hid (And.intro hl hm)
  clear hx hy hl hm
  by_cases hlen : l.length = m.length
  case neg =>
    have HR := Lib.hid (eqL_len ctlEq l m hlen)
    rw [HR.out]
    have hne : ((l.length : Int) != (m.length : Int)) = true := by simp; omega
    clear HR hlen
    go_enter Tryz.func82, Tryz.ntmps82
    go_wp2
    go_ret
    exact ⟨rfl, Below.refl _ _⟩
  have hne0 : ((l.length : Int) != (m.length : Int)) = false := by simp; omega
  have HLEN := Lib.hid hlen
  clear hlen
  go_enter Tryz.func82, Tryz.ntmps82
  go_wp2
  go_loopg [13] l.length (fun k s13 wr => ∃ i : Nat, i ≤ l.length ∧ k = l.length - i ∧ s13 = .int .i64 (i : Int) ∧ Hid (EqTo ctlEq l m i ∧ Below w.heap.size w wr))
  case atStart => exact ⟨0, Nat.zero_le _, rfl, rfl, Lib.hid ⟨eqTo_zero _ _ _, Below.refl _ _⟩⟩
  case round =>
    obtain ⟨i, hi, rfl, rfl, HI⟩ := hrel
    have HX := Lib.hid (HX.out.on HI.out.2)
    have HY := Lib.hid (HY.out.on HI.out.2)
    by_cases hlt : i < l.length
    · have hlt2 : i < m.length := by have := HLEN.out; omega
      obtain ⟨b1, o1, rfl, p0, p1, p2⟩ := row3_of HX.out i hlt
      obtain ⟨b2, o2, rfl, r0, r1, r2⟩ := row3_of HY.out i hlt2
      have HN : Hid (ctlEq l[i] m[i] = true → EqTo ctlEq l m (i + 1)) := Lib.hid (HI.out.1.next hlt hlt2)
      have HE : Hid (ctlEq l[i] m[i] = false → eqL ctlEq l m = false) := Lib.hid (eqL_ne ctlEq l m i hlt hlt2)
      have HB := Lib.hid HI.out.2
      have HJ := Lib.hid (show i < 1000000 by have := HL.out.1; omega)
      clear HI
      generalize l[i] = y at *
      generalize m[i] = z at *
      have hne : ∀ w, (binOp .neq 70 (.agg #[.int .i64 y.kind, .int .i64 y.slave, .int .i64 y.reg]) (.agg #[.int .i64 z.kind, .int .i64 z.slave, .int .i64 z.reg])).run Tryz.prog w = .ok (.bool (!ctlEq y z)) w := neq_ctl y.kind y.slave y.reg z.kind z.slave z.reg
      rcases Bool.eq_false_or_eq_true (ctlEq y z) with h0 | h0
      · have HN2 := Lib.hid (HN.out h0)
        clear HN HE
        rw [h0] at hne
        clear h0
        go_wp2
        go_quiet (fail)
        go_wp2
        go_roundg (l.length - (i + 1))
        case measure => omega
        case rel => exact ⟨i + 1, by omega, rfl, next_i64' i HJ.out, Lib.hid ⟨HN2.out, HB.out.trans ((below_drewN (Below.refl _ _) _).mono HB.out.size)⟩⟩
      · have HE2 := Lib.hid (HE.out h0)
        clear HN HE
        rw [h0] at hne
        clear h0
        go_wp2
        go_quiet (fail)
        go_wp2
        go_ret
        rw [HE2.out]
        exact ⟨rfl, HB.out.trans ((below_drewN (Below.refl _ _) _).mono HB.out.size)⟩
    · have HR := Lib.hid (HI.out.1.all hlt HLEN.out)
      go_wp2
      go_ret
      rw [HR.out]
      exact ⟨rfl, HI.out.2⟩
end Go.Proofs.YtpocjmlkhophoaaGreatDoor
/- yardref.Ints, samePoll, samePoint; config.numbersOf: what each answers; all older memory stands. -/
namespace Go.Proofs.YtpocjmlkhophoaaGreatDoor
open Go.RowKit Go.Extern.Stop Go.Stop Go.Extern

set_option maxRecDepth 100000 in
set_option maxHeartbeats 4000000 in
theorem ints_same (l m : List Int) (x y : Value) (w : World) (hx : LiesAt w x l.length (icells l)) (hy : LiesAt w y m.length (icells m)) (hl : l.length ≤ 1000) (hm : m.length ≤ 1000) : Calls Tryz.prog 69 #[x, y] w fun e w' => e = .returned (.bool (eqL intEq l m)) ∧ Below w.heap.size w w' := by
  have HX := Lib.hid hx
  have HY := Lib.hid hy
  obtain ⟨a1, q1, rfl, _⟩ := hx.form
  obtain ⟨a2, q2, rfl, _⟩ := hy.form
  have HL := Lib.hid (And.intro hl hm)
  clear hx hy hl hm
  by_cases hlen : l.length = m.length
  case neg =>
    have HR := Lib.hid (eqL_len intEq l m hlen)
    rw [HR.out]
    have hne : ((l.length : Int) != (m.length : Int)) = true := by simp; omega
    clear HR hlen
    go_enter Tryz.func69, Tryz.ntmps69
    go_wp2
    go_ret
    exact ⟨rfl, Below.refl _ _⟩
  have hne0 : ((l.length : Int) != (m.length : Int)) = false := by simp; omega
  have HLEN := Lib.hid hlen
  clear hlen
  go_enter Tryz.func69, Tryz.ntmps69
  go_wp2
  go_loopg [5] l.length (fun k s5 wr => ∃ i : Nat, i ≤ l.length ∧ k = l.length - i ∧ s5 = .int .i64 (i : Int) ∧ Hid (EqTo intEq l m i ∧ Below w.heap.size w wr))
  case atStart => exact ⟨0, Nat.zero_le _, rfl, rfl, Lib.hid ⟨eqTo_zero _ _ _, Below.refl _ _⟩⟩
  case round =>
    obtain ⟨i, hi, rfl, rfl, HI⟩ := hrel
    have HX := Lib.hid (HX.out.on HI.out.2)
    have HY := Lib.hid (HY.out.on HI.out.2)
    by_cases hlt : i < l.length
    · have hlt2 : i < m.length := by have := HLEN.out; omega
      obtain ⟨b1, o1, rfl, at1⟩ := lies_cells HX.out (icells_get l i hlt)
      obtain ⟨b2, o2, rfl, at2⟩ := lies_cells HY.out (icells_get m i hlt2)
      have p0 := at1 _ _ (icells_get l i hlt)
      have r0 := at2 _ _ (icells_get m i hlt2)
      clear at1 at2
      have HN : Hid (intEq l[i] m[i] = true → EqTo intEq l m (i + 1)) := Lib.hid (HI.out.1.next hlt hlt2)
      have HE : Hid (intEq l[i] m[i] = false → eqL intEq l m = false) := Lib.hid (eqL_ne intEq l m i hlt hlt2)
      have HB := Lib.hid HI.out.2
      have HJ := Lib.hid (show i < 1000000 by have := HL.out.1; omega)
      clear HI
      generalize l[i] = y at *
      generalize m[i] = z at *
      rcases Bool.eq_false_or_eq_true (intEq y z) with h0 | h0
      · have HN2 := Lib.hid (HN.out h0)
        clear HN HE
        have hyz : (y != z) = false := by simpa [intEq] using h0
        clear h0
        go_wp2
        go_quiet (fail)
        go_wp2
        go_roundg (l.length - (i + 1))
        case measure => omega
        case rel => exact ⟨i + 1, by omega, rfl, next_i64' i HJ.out, Lib.hid ⟨HN2.out, HB.out.trans ((below_drewN (Below.refl _ _) _).mono HB.out.size)⟩⟩
      · have HE2 := Lib.hid (HE.out h0)
        clear HN HE
        have hyz : (y != z) = true := by simpa [intEq] using h0
        clear h0
        go_wp2
        go_quiet (fail)
        go_wp2
        go_ret
        rw [HE2.out]
        exact ⟨rfl, HB.out.trans ((below_drewN (Below.refl _ _) _).mono HB.out.size)⟩
    · have HR := Lib.hid (HI.out.1.all hlt HLEN.out)
      go_wp2
      go_ret
      rw [HR.out]
      exact ⟨rfl, HI.out.2⟩
set_option maxRecDepth 100000 in
set_option maxHeartbeats 1000000 in
theorem polls_w0 (a b : Poll) (w : World)  (h0 : (a.slave == b.slave) = false) : Calls Tryz.prog 70 #[.agg #[.int .i64 a.slave, .int .i64 a.func, .int .i64 a.start, .int .i64 a.count, .int .i64 a.every], .agg #[.int .i64 b.slave, .int .i64 b.func, .int .i64 b.start, .int .i64 b.count, .int .i64 b.every]] w fun e w' => e = .returned (.bool (pollEq a b)) ∧ Below w.heap.size w w' := by
  have HR := Lib.hid (show pollEq a b = false by simp [pollEq, h0])
  have HB := Lib.hid ((below_new w (.cells #[.int .i64 a.slave, .int .i64 a.func, .int .i64 a.start, .int .i64 a.count, .int .i64 a.every] 68)).trans ((below_new (w.alloc (.cells #[.int .i64 a.slave, .int .i64 a.func, .int .i64 a.start, .int .i64 a.count, .int .i64 a.every] 68)) (.cells #[.int .i64 b.slave, .int .i64 b.func, .int .i64 b.start, .int .i64 b.count, .int .i64 b.every] 68)).mono (below_new w (.cells #[.int .i64 a.slave, .int .i64 a.func, .int .i64 a.start, .int .i64 a.count, .int .i64 a.every] 68)).size))
  rw [HR.out]
  clear HR
  go_enter Tryz.func70, Tryz.ntmps70
  go_wp2
  go_ret
  exact ⟨rfl, HB.out⟩
set_option maxRecDepth 100000 in
set_option maxHeartbeats 1000000 in
theorem polls_w1 (a b : Poll) (w : World) (h0 : (a.slave == b.slave) = true) (h1 : (a.func == b.func) = false) : Calls Tryz.prog 70 #[.agg #[.int .i64 a.slave, .int .i64 a.func, .int .i64 a.start, .int .i64 a.count, .int .i64 a.every], .agg #[.int .i64 b.slave, .int .i64 b.func, .int .i64 b.start, .int .i64 b.count, .int .i64 b.every]] w fun e w' => e = .returned (.bool (pollEq a b)) ∧ Below w.heap.size w w' := by
  have HR := Lib.hid (show pollEq a b = false by simp [pollEq, h0, h1])
  have HB := Lib.hid ((below_new w (.cells #[.int .i64 a.slave, .int .i64 a.func, .int .i64 a.start, .int .i64 a.count, .int .i64 a.every] 68)).trans ((below_new (w.alloc (.cells #[.int .i64 a.slave, .int .i64 a.func, .int .i64 a.start, .int .i64 a.count, .int .i64 a.every] 68)) (.cells #[.int .i64 b.slave, .int .i64 b.func, .int .i64 b.start, .int .i64 b.count, .int .i64 b.every] 68)).mono (below_new w (.cells #[.int .i64 a.slave, .int .i64 a.func, .int .i64 a.start, .int .i64 a.count, .int .i64 a.every] 68)).size))
  rw [HR.out]
  clear HR
  go_enter Tryz.func70, Tryz.ntmps70
  go_wp2
  go_ret
  exact ⟨rfl, HB.out⟩
set_option maxRecDepth 100000 in
set_option maxHeartbeats 1000000 in
theorem polls_w2 (a b : Poll) (w : World) (h0 : (a.slave == b.slave) = true) (h1 : (a.func == b.func) = true) (h2 : (a.start == b.start) = false) : Calls Tryz.prog 70 #[.agg #[.int .i64 a.slave, .int .i64 a.func, .int .i64 a.start, .int .i64 a.count, .int .i64 a.every], .agg #[.int .i64 b.slave, .int .i64 b.func, .int .i64 b.start, .int .i64 b.count, .int .i64 b.every]] w fun e w' => e = .returned (.bool (pollEq a b)) ∧ Below w.heap.size w w' := by
  have HR := Lib.hid (show pollEq a b = false by simp [pollEq, h0, h1, h2])
  have HB := Lib.hid ((below_new w (.cells #[.int .i64 a.slave, .int .i64 a.func, .int .i64 a.start, .int .i64 a.count, .int .i64 a.every] 68)).trans ((below_new (w.alloc (.cells #[.int .i64 a.slave, .int .i64 a.func, .int .i64 a.start, .int .i64 a.count, .int .i64 a.every] 68)) (.cells #[.int .i64 b.slave, .int .i64 b.func, .int .i64 b.start, .int .i64 b.count, .int .i64 b.every] 68)).mono (below_new w (.cells #[.int .i64 a.slave, .int .i64 a.func, .int .i64 a.start, .int .i64 a.count, .int .i64 a.every] 68)).size))
  rw [HR.out]
  clear HR
  go_enter Tryz.func70, Tryz.ntmps70
  go_wp2
  go_ret
  exact ⟨rfl, HB.out⟩
set_option maxRecDepth 100000 in
set_option maxHeartbeats 1000000 in
theorem polls_w3 (a b : Poll) (w : World) (h0 : (a.slave == b.slave) = true) (h1 : (a.func == b.func) = true) (h2 : (a.start == b.start) = true) (h3 : (a.count == b.count) = false) : Calls Tryz.prog 70 #[.agg #[.int .i64 a.slave, .int .i64 a.func, .int .i64 a.start, .int .i64 a.count, .int .i64 a.every], .agg #[.int .i64 b.slave, .int .i64 b.func, .int .i64 b.start, .int .i64 b.count, .int .i64 b.every]] w fun e w' => e = .returned (.bool (pollEq a b)) ∧ Below w.heap.size w w' := by
  have HR := Lib.hid (show pollEq a b = false by simp [pollEq, h0, h1, h2, h3])
  have HB := Lib.hid ((below_new w (.cells #[.int .i64 a.slave, .int .i64 a.func, .int .i64 a.start, .int .i64 a.count, .int .i64 a.every] 68)).trans ((below_new (w.alloc (.cells #[.int .i64 a.slave, .int .i64 a.func, .int .i64 a.start, .int .i64 a.count, .int .i64 a.every] 68)) (.cells #[.int .i64 b.slave, .int .i64 b.func, .int .i64 b.start, .int .i64 b.count, .int .i64 b.every] 68)).mono (below_new w (.cells #[.int .i64 a.slave, .int .i64 a.func, .int .i64 a.start, .int .i64 a.count, .int .i64 a.every] 68)).size))
  rw [HR.out]
  clear HR
  go_enter Tryz.func70, Tryz.ntmps70
  go_wp2
  go_ret
  exact ⟨rfl, HB.out⟩
set_option maxRecDepth 100000 in
set_option maxHeartbeats 1000000 in
theorem polls_w4 (a b : Poll) (w : World) (h0 : (a.slave == b.slave) = true) (h1 : (a.func == b.func) = true) (h2 : (a.start == b.start) = true) (h3 : (a.count == b.count) = true) (h4 : (a.every == b.every) = false) : Calls Tryz.prog 70 #[.agg #[.int .i64 a.slave, .int .i64 a.func, .int .i64 a.start, .int .i64 a.count, .int .i64 a.every], .agg #[.int .i64 b.slave, .int .i64 b.func, .int .i64 b.start, .int .i64 b.count, .int .i64 b.every]] w fun e w' => e = .returned (.bool (pollEq a b)) ∧ Below w.heap.size w w' := by
  have HR := Lib.hid (show pollEq a b = false by simp [pollEq, h0, h1, h2, h3, h4])
  have HB := Lib.hid ((below_new w (.cells #[.int .i64 a.slave, .int .i64 a.func, .int .i64 a.start, .int .i64 a.count, .int .i64 a.every] 68)).trans ((below_new (w.alloc (.cells #[.int .i64 a.slave, .int .i64 a.func, .int .i64 a.start, .int .i64 a.count, .int .i64 a.every] 68)) (.cells #[.int .i64 b.slave, .int .i64 b.func, .int .i64 b.start, .int .i64 b.count, .int .i64 b.every] 68)).mono (below_new w (.cells #[.int .i64 a.slave, .int .i64 a.func, .int .i64 a.start, .int .i64 a.count, .int .i64 a.every] 68)).size))
  rw [HR.out]
  clear HR
  go_enter Tryz.func70, Tryz.ntmps70
  go_wp2
  go_ret
  exact ⟨rfl, HB.out⟩
set_option maxRecDepth 100000 in
set_option maxHeartbeats 1000000 in
theorem polls_w5 (a b : Poll) (w : World) (h0 : (a.slave == b.slave) = true) (h1 : (a.func == b.func) = true) (h2 : (a.start == b.start) = true) (h3 : (a.count == b.count) = true) (h4 : (a.every == b.every) = true) : Calls Tryz.prog 70 #[.agg #[.int .i64 a.slave, .int .i64 a.func, .int .i64 a.start, .int .i64 a.count, .int .i64 a.every], .agg #[.int .i64 b.slave, .int .i64 b.func, .int .i64 b.start, .int .i64 b.count, .int .i64 b.every]] w fun e w' => e = .returned (.bool (pollEq a b)) ∧ Below w.heap.size w w' := by
  have HR := Lib.hid (show pollEq a b = true by simp [pollEq, h0, h1, h2, h3, h4])
  have HB := Lib.hid ((below_new w (.cells #[.int .i64 a.slave, .int .i64 a.func, .int .i64 a.start, .int .i64 a.count, .int .i64 a.every] 68)).trans ((below_new (w.alloc (.cells #[.int .i64 a.slave, .int .i64 a.func, .int .i64 a.start, .int .i64 a.count, .int .i64 a.every] 68)) (.cells #[.int .i64 b.slave, .int .i64 b.func, .int .i64 b.start, .int .i64 b.count, .int .i64 b.every] 68)).mono (below_new w (.cells #[.int .i64 a.slave, .int .i64 a.func, .int .i64 a.start, .int .i64 a.count, .int .i64 a.every] 68)).size))
  rw [HR.out]
  clear HR
  go_enter Tryz.func70, Tryz.ntmps70
  go_wp2
  go_ret
  exact ⟨rfl, HB.out⟩
theorem polls_same0 (a b : Poll) (w : World) : Calls Tryz.prog 70 #[.agg #[.int .i64 a.slave, .int .i64 a.func, .int .i64 a.start, .int .i64 a.count, .int .i64 a.every], .agg #[.int .i64 b.slave, .int .i64 b.func, .int .i64 b.start, .int .i64 b.count, .int .i64 b.every]] w fun e w' => e = .returned (.bool (pollEq a b)) ∧ Below w.heap.size w w' := by
  rcases Bool.eq_false_or_eq_true (a.slave == b.slave) with h0 | h0
  case inr => exact polls_w0 a b w h0
  rcases Bool.eq_false_or_eq_true (a.func == b.func) with h1 | h1
  case inr => exact polls_w1 a b w h0 h1
  rcases Bool.eq_false_or_eq_true (a.start == b.start) with h2 | h2
  case inr => exact polls_w2 a b w h0 h1 h2
  rcases Bool.eq_false_or_eq_true (a.count == b.count) with h3 | h3
  case inr => exact polls_w3 a b w h0 h1 h2 h3
  rcases Bool.eq_false_or_eq_true (a.every == b.every) with h4 | h4
  case inr => exact polls_w4 a b w h0 h1 h2 h3 h4
  exact polls_w5 a b w h0 h1 h2 h3 h4
set_option maxRecDepth 100000 in
set_option maxHeartbeats 1000000 in
theorem points_w0 (a b : Pt) (w : World)  (h0 : (a.kind == b.kind) = false) : Calls Tryz.prog 71 #[.agg #[.int .i64 a.kind, .int .i64 a.poll, .int .i64 a.place, .int .i64 a.cls, .int .i64 a.dead, .int .i64 a.num, .int .i64 a.den, .int .i64 a.off], .agg #[.int .i64 b.kind, .int .i64 b.poll, .int .i64 b.place, .int .i64 b.cls, .int .i64 b.dead, .int .i64 b.num, .int .i64 b.den, .int .i64 b.off]] w fun e w' => e = .returned (.bool (ptEq a b)) ∧ Below w.heap.size w w' := by
  have HR := Lib.hid (show ptEq a b = false by simp [ptEq, h0])
  have HB := Lib.hid ((below_new w (.cells #[.int .i64 a.kind, .int .i64 a.poll, .int .i64 a.place, .int .i64 a.cls, .int .i64 a.dead, .int .i64 a.num, .int .i64 a.den, .int .i64 a.off] 62)).trans ((below_new (w.alloc (.cells #[.int .i64 a.kind, .int .i64 a.poll, .int .i64 a.place, .int .i64 a.cls, .int .i64 a.dead, .int .i64 a.num, .int .i64 a.den, .int .i64 a.off] 62)) (.cells #[.int .i64 b.kind, .int .i64 b.poll, .int .i64 b.place, .int .i64 b.cls, .int .i64 b.dead, .int .i64 b.num, .int .i64 b.den, .int .i64 b.off] 62)).mono (below_new w (.cells #[.int .i64 a.kind, .int .i64 a.poll, .int .i64 a.place, .int .i64 a.cls, .int .i64 a.dead, .int .i64 a.num, .int .i64 a.den, .int .i64 a.off] 62)).size))
  rw [HR.out]
  clear HR
  go_enter Tryz.func71, Tryz.ntmps71
  go_wp2
  go_ret
  exact ⟨rfl, HB.out⟩
set_option maxRecDepth 100000 in
set_option maxHeartbeats 1000000 in
theorem points_w1 (a b : Pt) (w : World) (h0 : (a.kind == b.kind) = true) (h1 : (a.poll == b.poll) = false) : Calls Tryz.prog 71 #[.agg #[.int .i64 a.kind, .int .i64 a.poll, .int .i64 a.place, .int .i64 a.cls, .int .i64 a.dead, .int .i64 a.num, .int .i64 a.den, .int .i64 a.off], .agg #[.int .i64 b.kind, .int .i64 b.poll, .int .i64 b.place, .int .i64 b.cls, .int .i64 b.dead, .int .i64 b.num, .int .i64 b.den, .int .i64 b.off]] w fun e w' => e = .returned (.bool (ptEq a b)) ∧ Below w.heap.size w w' := by
  have HR := Lib.hid (show ptEq a b = false by simp [ptEq, h0, h1])
  have HB := Lib.hid ((below_new w (.cells #[.int .i64 a.kind, .int .i64 a.poll, .int .i64 a.place, .int .i64 a.cls, .int .i64 a.dead, .int .i64 a.num, .int .i64 a.den, .int .i64 a.off] 62)).trans ((below_new (w.alloc (.cells #[.int .i64 a.kind, .int .i64 a.poll, .int .i64 a.place, .int .i64 a.cls, .int .i64 a.dead, .int .i64 a.num, .int .i64 a.den, .int .i64 a.off] 62)) (.cells #[.int .i64 b.kind, .int .i64 b.poll, .int .i64 b.place, .int .i64 b.cls, .int .i64 b.dead, .int .i64 b.num, .int .i64 b.den, .int .i64 b.off] 62)).mono (below_new w (.cells #[.int .i64 a.kind, .int .i64 a.poll, .int .i64 a.place, .int .i64 a.cls, .int .i64 a.dead, .int .i64 a.num, .int .i64 a.den, .int .i64 a.off] 62)).size))
  rw [HR.out]
  clear HR
  go_enter Tryz.func71, Tryz.ntmps71
  go_wp2
  go_ret
  exact ⟨rfl, HB.out⟩
set_option maxRecDepth 100000 in
set_option maxHeartbeats 1000000 in
theorem points_w2 (a b : Pt) (w : World) (h0 : (a.kind == b.kind) = true) (h1 : (a.poll == b.poll) = true) (h2 : (a.place == b.place) = false) : Calls Tryz.prog 71 #[.agg #[.int .i64 a.kind, .int .i64 a.poll, .int .i64 a.place, .int .i64 a.cls, .int .i64 a.dead, .int .i64 a.num, .int .i64 a.den, .int .i64 a.off], .agg #[.int .i64 b.kind, .int .i64 b.poll, .int .i64 b.place, .int .i64 b.cls, .int .i64 b.dead, .int .i64 b.num, .int .i64 b.den, .int .i64 b.off]] w fun e w' => e = .returned (.bool (ptEq a b)) ∧ Below w.heap.size w w' := by
  have HR := Lib.hid (show ptEq a b = false by simp [ptEq, h0, h1, h2])
  have HB := Lib.hid ((below_new w (.cells #[.int .i64 a.kind, .int .i64 a.poll, .int .i64 a.place, .int .i64 a.cls, .int .i64 a.dead, .int .i64 a.num, .int .i64 a.den, .int .i64 a.off] 62)).trans ((below_new (w.alloc (.cells #[.int .i64 a.kind, .int .i64 a.poll, .int .i64 a.place, .int .i64 a.cls, .int .i64 a.dead, .int .i64 a.num, .int .i64 a.den, .int .i64 a.off] 62)) (.cells #[.int .i64 b.kind, .int .i64 b.poll, .int .i64 b.place, .int .i64 b.cls, .int .i64 b.dead, .int .i64 b.num, .int .i64 b.den, .int .i64 b.off] 62)).mono (below_new w (.cells #[.int .i64 a.kind, .int .i64 a.poll, .int .i64 a.place, .int .i64 a.cls, .int .i64 a.dead, .int .i64 a.num, .int .i64 a.den, .int .i64 a.off] 62)).size))
  rw [HR.out]
  clear HR
  go_enter Tryz.func71, Tryz.ntmps71
  go_wp2
  go_ret
  exact ⟨rfl, HB.out⟩
set_option maxRecDepth 100000 in
set_option maxHeartbeats 1000000 in
theorem points_w3 (a b : Pt) (w : World) (h0 : (a.kind == b.kind) = true) (h1 : (a.poll == b.poll) = true) (h2 : (a.place == b.place) = true) (h3 : (a.cls == b.cls) = false) : Calls Tryz.prog 71 #[.agg #[.int .i64 a.kind, .int .i64 a.poll, .int .i64 a.place, .int .i64 a.cls, .int .i64 a.dead, .int .i64 a.num, .int .i64 a.den, .int .i64 a.off], .agg #[.int .i64 b.kind, .int .i64 b.poll, .int .i64 b.place, .int .i64 b.cls, .int .i64 b.dead, .int .i64 b.num, .int .i64 b.den, .int .i64 b.off]] w fun e w' => e = .returned (.bool (ptEq a b)) ∧ Below w.heap.size w w' := by
  have HR := Lib.hid (show ptEq a b = false by simp [ptEq, h0, h1, h2, h3])
  have HB := Lib.hid ((below_new w (.cells #[.int .i64 a.kind, .int .i64 a.poll, .int .i64 a.place, .int .i64 a.cls, .int .i64 a.dead, .int .i64 a.num, .int .i64 a.den, .int .i64 a.off] 62)).trans ((below_new (w.alloc (.cells #[.int .i64 a.kind, .int .i64 a.poll, .int .i64 a.place, .int .i64 a.cls, .int .i64 a.dead, .int .i64 a.num, .int .i64 a.den, .int .i64 a.off] 62)) (.cells #[.int .i64 b.kind, .int .i64 b.poll, .int .i64 b.place, .int .i64 b.cls, .int .i64 b.dead, .int .i64 b.num, .int .i64 b.den, .int .i64 b.off] 62)).mono (below_new w (.cells #[.int .i64 a.kind, .int .i64 a.poll, .int .i64 a.place, .int .i64 a.cls, .int .i64 a.dead, .int .i64 a.num, .int .i64 a.den, .int .i64 a.off] 62)).size))
  rw [HR.out]
  clear HR
  go_enter Tryz.func71, Tryz.ntmps71
  go_wp2
  go_ret
  exact ⟨rfl, HB.out⟩
set_option maxRecDepth 100000 in
set_option maxHeartbeats 1000000 in
theorem points_w4 (a b : Pt) (w : World) (h0 : (a.kind == b.kind) = true) (h1 : (a.poll == b.poll) = true) (h2 : (a.place == b.place) = true) (h3 : (a.cls == b.cls) = true) (h4 : (a.dead == b.dead) = false) : Calls Tryz.prog 71 #[.agg #[.int .i64 a.kind, .int .i64 a.poll, .int .i64 a.place, .int .i64 a.cls, .int .i64 a.dead, .int .i64 a.num, .int .i64 a.den, .int .i64 a.off], .agg #[.int .i64 b.kind, .int .i64 b.poll, .int .i64 b.place, .int .i64 b.cls, .int .i64 b.dead, .int .i64 b.num, .int .i64 b.den, .int .i64 b.off]] w fun e w' => e = .returned (.bool (ptEq a b)) ∧ Below w.heap.size w w' := by
  have HR := Lib.hid (show ptEq a b = false by simp [ptEq, h0, h1, h2, h3, h4])
  have HB := Lib.hid ((below_new w (.cells #[.int .i64 a.kind, .int .i64 a.poll, .int .i64 a.place, .int .i64 a.cls, .int .i64 a.dead, .int .i64 a.num, .int .i64 a.den, .int .i64 a.off] 62)).trans ((below_new (w.alloc (.cells #[.int .i64 a.kind, .int .i64 a.poll, .int .i64 a.place, .int .i64 a.cls, .int .i64 a.dead, .int .i64 a.num, .int .i64 a.den, .int .i64 a.off] 62)) (.cells #[.int .i64 b.kind, .int .i64 b.poll, .int .i64 b.place, .int .i64 b.cls, .int .i64 b.dead, .int .i64 b.num, .int .i64 b.den, .int .i64 b.off] 62)).mono (below_new w (.cells #[.int .i64 a.kind, .int .i64 a.poll, .int .i64 a.place, .int .i64 a.cls, .int .i64 a.dead, .int .i64 a.num, .int .i64 a.den, .int .i64 a.off] 62)).size))
  rw [HR.out]
  clear HR
  go_enter Tryz.func71, Tryz.ntmps71
  go_wp2
  go_ret
  exact ⟨rfl, HB.out⟩
set_option maxRecDepth 100000 in
set_option maxHeartbeats 1000000 in
theorem points_w5 (a b : Pt) (w : World) (h0 : (a.kind == b.kind) = true) (h1 : (a.poll == b.poll) = true) (h2 : (a.place == b.place) = true) (h3 : (a.cls == b.cls) = true) (h4 : (a.dead == b.dead) = true) (h5 : (a.num == b.num) = false) : Calls Tryz.prog 71 #[.agg #[.int .i64 a.kind, .int .i64 a.poll, .int .i64 a.place, .int .i64 a.cls, .int .i64 a.dead, .int .i64 a.num, .int .i64 a.den, .int .i64 a.off], .agg #[.int .i64 b.kind, .int .i64 b.poll, .int .i64 b.place, .int .i64 b.cls, .int .i64 b.dead, .int .i64 b.num, .int .i64 b.den, .int .i64 b.off]] w fun e w' => e = .returned (.bool (ptEq a b)) ∧ Below w.heap.size w w' := by
  have HR := Lib.hid (show ptEq a b = false by simp [ptEq, h0, h1, h2, h3, h4, h5])
  have HB := Lib.hid ((below_new w (.cells #[.int .i64 a.kind, .int .i64 a.poll, .int .i64 a.place, .int .i64 a.cls, .int .i64 a.dead, .int .i64 a.num, .int .i64 a.den, .int .i64 a.off] 62)).trans ((below_new (w.alloc (.cells #[.int .i64 a.kind, .int .i64 a.poll, .int .i64 a.place, .int .i64 a.cls, .int .i64 a.dead, .int .i64 a.num, .int .i64 a.den, .int .i64 a.off] 62)) (.cells #[.int .i64 b.kind, .int .i64 b.poll, .int .i64 b.place, .int .i64 b.cls, .int .i64 b.dead, .int .i64 b.num, .int .i64 b.den, .int .i64 b.off] 62)).mono (below_new w (.cells #[.int .i64 a.kind, .int .i64 a.poll, .int .i64 a.place, .int .i64 a.cls, .int .i64 a.dead, .int .i64 a.num, .int .i64 a.den, .int .i64 a.off] 62)).size))
  rw [HR.out]
  clear HR
  go_enter Tryz.func71, Tryz.ntmps71
  go_wp2
  go_ret
  exact ⟨rfl, HB.out⟩
set_option maxRecDepth 100000 in
set_option maxHeartbeats 1000000 in
theorem points_w6 (a b : Pt) (w : World) (h0 : (a.kind == b.kind) = true) (h1 : (a.poll == b.poll) = true) (h2 : (a.place == b.place) = true) (h3 : (a.cls == b.cls) = true) (h4 : (a.dead == b.dead) = true) (h5 : (a.num == b.num) = true) (h6 : (a.den == b.den) = false) : Calls Tryz.prog 71 #[.agg #[.int .i64 a.kind, .int .i64 a.poll, .int .i64 a.place, .int .i64 a.cls, .int .i64 a.dead, .int .i64 a.num, .int .i64 a.den, .int .i64 a.off], .agg #[.int .i64 b.kind, .int .i64 b.poll, .int .i64 b.place, .int .i64 b.cls, .int .i64 b.dead, .int .i64 b.num, .int .i64 b.den, .int .i64 b.off]] w fun e w' => e = .returned (.bool (ptEq a b)) ∧ Below w.heap.size w w' := by
  have HR := Lib.hid (show ptEq a b = false by simp [ptEq, h0, h1, h2, h3, h4, h5, h6])
  have HB := Lib.hid ((below_new w (.cells #[.int .i64 a.kind, .int .i64 a.poll, .int .i64 a.place, .int .i64 a.cls, .int .i64 a.dead, .int .i64 a.num, .int .i64 a.den, .int .i64 a.off] 62)).trans ((below_new (w.alloc (.cells #[.int .i64 a.kind, .int .i64 a.poll, .int .i64 a.place, .int .i64 a.cls, .int .i64 a.dead, .int .i64 a.num, .int .i64 a.den, .int .i64 a.off] 62)) (.cells #[.int .i64 b.kind, .int .i64 b.poll, .int .i64 b.place, .int .i64 b.cls, .int .i64 b.dead, .int .i64 b.num, .int .i64 b.den, .int .i64 b.off] 62)).mono (below_new w (.cells #[.int .i64 a.kind, .int .i64 a.poll, .int .i64 a.place, .int .i64 a.cls, .int .i64 a.dead, .int .i64 a.num, .int .i64 a.den, .int .i64 a.off] 62)).size))
  rw [HR.out]
  clear HR
  go_enter Tryz.func71, Tryz.ntmps71
  go_wp2
  go_ret
  exact ⟨rfl, HB.out⟩
set_option maxRecDepth 100000 in
set_option maxHeartbeats 1000000 in
theorem points_w7 (a b : Pt) (w : World) (h0 : (a.kind == b.kind) = true) (h1 : (a.poll == b.poll) = true) (h2 : (a.place == b.place) = true) (h3 : (a.cls == b.cls) = true) (h4 : (a.dead == b.dead) = true) (h5 : (a.num == b.num) = true) (h6 : (a.den == b.den) = true) (h7 : (a.off == b.off) = false) : Calls Tryz.prog 71 #[.agg #[.int .i64 a.kind, .int .i64 a.poll, .int .i64 a.place, .int .i64 a.cls, .int .i64 a.dead, .int .i64 a.num, .int .i64 a.den, .int .i64 a.off], .agg #[.int .i64 b.kind, .int .i64 b.poll, .int .i64 b.place, .int .i64 b.cls, .int .i64 b.dead, .int .i64 b.num, .int .i64 b.den, .int .i64 b.off]] w fun e w' => e = .returned (.bool (ptEq a b)) ∧ Below w.heap.size w w' := by
  have HR := Lib.hid (show ptEq a b = false by simp [ptEq, h0, h1, h2, h3, h4, h5, h6, h7])
  have HB := Lib.hid ((below_new w (.cells #[.int .i64 a.kind, .int .i64 a.poll, .int .i64 a.place, .int .i64 a.cls, .int .i64 a.dead, .int .i64 a.num, .int .i64 a.den, .int .i64 a.off] 62)).trans ((below_new (w.alloc (.cells #[.int .i64 a.kind, .int .i64 a.poll, .int .i64 a.place, .int .i64 a.cls, .int .i64 a.dead, .int .i64 a.num, .int .i64 a.den, .int .i64 a.off] 62)) (.cells #[.int .i64 b.kind, .int .i64 b.poll, .int .i64 b.place, .int .i64 b.cls, .int .i64 b.dead, .int .i64 b.num, .int .i64 b.den, .int .i64 b.off] 62)).mono (below_new w (.cells #[.int .i64 a.kind, .int .i64 a.poll, .int .i64 a.place, .int .i64 a.cls, .int .i64 a.dead, .int .i64 a.num, .int .i64 a.den, .int .i64 a.off] 62)).size))
  rw [HR.out]
  clear HR
  go_enter Tryz.func71, Tryz.ntmps71
  go_wp2
  go_ret
  exact ⟨rfl, HB.out⟩
set_option maxRecDepth 100000 in
set_option maxHeartbeats 1000000 in
theorem points_w8 (a b : Pt) (w : World) (h0 : (a.kind == b.kind) = true) (h1 : (a.poll == b.poll) = true) (h2 : (a.place == b.place) = true) (h3 : (a.cls == b.cls) = true) (h4 : (a.dead == b.dead) = true) (h5 : (a.num == b.num) = true) (h6 : (a.den == b.den) = true) (h7 : (a.off == b.off) = true) : Calls Tryz.prog 71 #[.agg #[.int .i64 a.kind, .int .i64 a.poll, .int .i64 a.place, .int .i64 a.cls, .int .i64 a.dead, .int .i64 a.num, .int .i64 a.den, .int .i64 a.off], .agg #[.int .i64 b.kind, .int .i64 b.poll, .int .i64 b.place, .int .i64 b.cls, .int .i64 b.dead, .int .i64 b.num, .int .i64 b.den, .int .i64 b.off]] w fun e w' => e = .returned (.bool (ptEq a b)) ∧ Below w.heap.size w w' := by
  have HR := Lib.hid (show ptEq a b = true by simp [ptEq, h0, h1, h2, h3, h4, h5, h6, h7])
  have HB := Lib.hid ((below_new w (.cells #[.int .i64 a.kind, .int .i64 a.poll, .int .i64 a.place, .int .i64 a.cls, .int .i64 a.dead, .int .i64 a.num, .int .i64 a.den, .int .i64 a.off] 62)).trans ((below_new (w.alloc (.cells #[.int .i64 a.kind, .int .i64 a.poll, .int .i64 a.place, .int .i64 a.cls, .int .i64 a.dead, .int .i64 a.num, .int .i64 a.den, .int .i64 a.off] 62)) (.cells #[.int .i64 b.kind, .int .i64 b.poll, .int .i64 b.place, .int .i64 b.cls, .int .i64 b.dead, .int .i64 b.num, .int .i64 b.den, .int .i64 b.off] 62)).mono (below_new w (.cells #[.int .i64 a.kind, .int .i64 a.poll, .int .i64 a.place, .int .i64 a.cls, .int .i64 a.dead, .int .i64 a.num, .int .i64 a.den, .int .i64 a.off] 62)).size))
  rw [HR.out]
  clear HR
  go_enter Tryz.func71, Tryz.ntmps71
  go_wp2
  go_ret
  exact ⟨rfl, HB.out⟩
theorem points_same0 (a b : Pt) (w : World) : Calls Tryz.prog 71 #[.agg #[.int .i64 a.kind, .int .i64 a.poll, .int .i64 a.place, .int .i64 a.cls, .int .i64 a.dead, .int .i64 a.num, .int .i64 a.den, .int .i64 a.off], .agg #[.int .i64 b.kind, .int .i64 b.poll, .int .i64 b.place, .int .i64 b.cls, .int .i64 b.dead, .int .i64 b.num, .int .i64 b.den, .int .i64 b.off]] w fun e w' => e = .returned (.bool (ptEq a b)) ∧ Below w.heap.size w w' := by
  rcases Bool.eq_false_or_eq_true (a.kind == b.kind) with h0 | h0
  case inr => exact points_w0 a b w h0
  rcases Bool.eq_false_or_eq_true (a.poll == b.poll) with h1 | h1
  case inr => exact points_w1 a b w h0 h1
  rcases Bool.eq_false_or_eq_true (a.place == b.place) with h2 | h2
  case inr => exact points_w2 a b w h0 h1 h2
  rcases Bool.eq_false_or_eq_true (a.cls == b.cls) with h3 | h3
  case inr => exact points_w3 a b w h0 h1 h2 h3
  rcases Bool.eq_false_or_eq_true (a.dead == b.dead) with h4 | h4
  case inr => exact points_w4 a b w h0 h1 h2 h3 h4
  rcases Bool.eq_false_or_eq_true (a.num == b.num) with h5 | h5
  case inr => exact points_w5 a b w h0 h1 h2 h3 h4 h5
  rcases Bool.eq_false_or_eq_true (a.den == b.den) with h6 | h6
  case inr => exact points_w6 a b w h0 h1 h2 h3 h4 h5 h6
  rcases Bool.eq_false_or_eq_true (a.off == b.off) with h7 | h7
  case inr => exact points_w7 a b w h0 h1 h2 h3 h4 h5 h6 h7
  exact points_w8 a b w h0 h1 h2 h3 h4 h5 h6 h7
/-- The nine numbers. -/
def numsV (c : Cfg) : Value := .agg #[.int .i64 c.own, .int .i64 c.master, .int .i64 c.reply, .int .i64 c.silence, .int .i64 c.retries, .int .i64 c.offline, .int .i64 c.select, .int .i64 c.confirm, .int .i64 c.frag]
set_option maxRecDepth 100000 in
set_option maxHeartbeats 4000000 in
theorem nums_any (c : Cfg) (sl po pt ct : Value) (w : World) : Calls Tryz.prog 78 #[cfgV c sl po pt ct] w fun e w' => e = .returned (numsV c) ∧ Below w.heap.size w w' := by
  unfold cfgV numsV
  go_enter Tryz.func78, Tryz.ntmps78
  go_wp2
  obtain ⟨wx, hwx⟩ : ∃ wx, wx = (w.alloc (.cells #[.int .i64 c.own, .int .i64 c.master, .bool c.unsol, .int .i64 c.reply, .int .i64 c.silence, .int .i64 c.retries, .int .i64 c.offline, .int .i64 c.select, .int .i64 c.confirm, .int .i64 c.frag, .int .i64 c.r0, .int .i64 c.r1, .int .i64 c.r2, sl, po, pt, ct] 28)).alloc (.cells #[.int .i64 c.own, .int .i64 c.master, .int .i64 c.reply, .int .i64 c.silence, .int .i64 c.retries, .int .i64 c.offline, .int .i64 c.select, .int .i64 c.confirm, .int .i64 c.frag] 118) := ⟨_, rfl⟩
  have hb : Below w.heap.size w wx := by
    rw [hwx]
    exact (below_new w _).trans ((below_new (w.alloc _) _).mono (below_new w _).size)
  have hq : wx.heap[w.heap.size + 1]? = some (.cells #[.int .i64 c.own, .int .i64 c.master, .int .i64 c.reply, .int .i64 c.silence, .int .i64 c.retries, .int .i64 c.offline, .int .i64 c.select, .int .i64 c.confirm, .int .i64 c.frag] 118 (0, 0)) := by
    rw [hwx]
    exact (two_new w _ _).2
  rw [← hwx]
  refine bodyPost_ret (v := .agg #[.int .i64 c.own, .int .i64 c.master, .int .i64 c.reply, .int .i64 c.silence, .int .i64 c.retries, .int .i64 c.offline, .int .i64 c.select, .int .i64 c.confirm, .int .i64 c.frag]) ?_ rfl ⟨rfl, hb⟩
  simp [results, Tryz.results78, go_sem, cells_of hq 0 _ rfl, cells_of hq 1 _ rfl, cells_of hq 2 _ rfl, cells_of hq 3 _ rfl, cells_of hq 4 _ rfl, cells_of hq 5 _ rfl, cells_of hq 6 _ rfl, cells_of hq 7 _ rfl, cells_of hq 8 _ rfl]
end Go.Proofs.YtpocjmlkhophoaaGreatDoor
