/- errors.Is through all wraps, at a code and at an error of errors.New's: what it answers; memory stands as it was. -/
import Derived.Test.YtcdjiejpccakaaaDoorNear
namespace Go.Proofs.YtcdjiejpccakaaaDoor
open Go.RowKit Go.Extern.Stop Go.Stop Go.Extern

theorem comp22 : (Tryd.prog.info? 22).map (fun i => i.comparable) = some true := by kernel_rfl
theorem comp83 : (Tryd.prog.info? 83).map (fun i => i.comparable) = some true := by kernel_rfl
theorem size85 : (Tryd.prog.info? 85).map (fun i => i.size) = some 1 := by kernel_rfl

/-- '==' between two errors that are codes. -/
theorem eql_code (a b : Int) (w : World) : (binOp .eql 27 (.iface 22 (.int .i64 a)) (.iface 22 (.int .i64 b))).run Tryd.prog w = .ok (.bool (a == b)) w := by
  obtain ⟨i, hi, hc⟩ := Option.map_eq_some_iff.1 comp22
  have h : ∀ d : Nat, (Op.equalIn (d + 2) 27 (.iface 22 (.int .i64 a)) (.iface 22 (.int .i64 b))).run Tryd.prog w = .ok (a == b) w := fun d => by
    simp [Op.equalIn, run_underlying Tryd.underlying27, run_underlying Tryd.underlying22, typeInfo, hi, hc]
  simp only [binOp]
  simp [Op.equal, Op.maxDepth, h 9998]

/-- '==' between an error of errors.New's and itself. -/
theorem eql_self (a : Addr) (w : World) : (binOp .eql 27 (.iface 83 (.pointer (some a))) (.iface 83 (.pointer (some a)))).run Tryd.prog w = .ok (.bool true) w := by
  obtain ⟨i, hi, hc⟩ := Option.map_eq_some_iff.1 comp83
  obtain ⟨j, hj, _⟩ := Option.map_eq_some_iff.1 size85
  exact run_eql_iface_ptr_same w a Tryd.underlying27 Tryd.underlying83 hi hc hj

theorem eql_fail (tt : TypeId) (x y : Value) (h : (42 : Nat) ≠ tt) (w : World) : (binOp .eql 27 (.iface 42 x) (.iface tt y)).run Tryd.prog w = .ok (.bool false) w :=
  run_eql_iface_types 42 tt x y Tryd.underlying27 h w
theorem eql_other (x y : Value) (w : World) : (binOp .eql 27 (.iface 83 x) (.iface 22 y)).run Tryd.prog w = .ok (.bool false) w :=
  run_eql_iface_types 83 22 x y Tryd.underlying27 (by decide) w


set_option maxHeartbeats 4000000 in
/-- errors.is at a code. -/
theorem is_in_code (l : List (ByteArray × Int)) (v : Value) (c d : Int) (w : World) (hch0 : Chain w (.iface 22 (.int .i64 c)) l v) :
    Calls Tryd.prog 33 #[v, .iface 22 (.int .i64 d), .bool true] w fun e w' => e = .returned (.bool (c == d)) ∧ w = w' := by
  have hch := Lib.hid hch0
  clear hch0
  have mU := methodUnwrap
  have nI := noIs42
  have hU := hasUnwrap42
  have q42 := fun x y => eql_fail 22 x y (by decide)
  have qc := eql_code
  have nI' := noIs22
  have nU' := noUnwrap22
  have nUs' := noUnwraps22
  go_enter Tryd.func33, Tryd.ntmps33
  go_wp2
  go_loopg [0] l.length (fun k v0 wr => w = wr ∧ ∃ l', k = l'.length ∧ Hid (Chain w (.iface 22 (.int .i64 c)) l' v0))
  case atStart => exact ⟨rfl, l, rfl, hch⟩
  case round =>
    obtain ⟨rfl, l', rfl, hc'⟩ := hrel
    cases l' with
    | nil =>
      have hv := hc'.out
      simp only [Chain] at hv
      subst hv
      by_cases hcd : c = d
      · have hq : (c == d) = true := by simp [hcd]
        clear hcd
        go_wp2
        go_ret
        exact ⟨(congrArg (fun x => Ending.returned (.bool x)) hq).symm, rfl⟩
      · have hq : (c == d) = false := by simp [hcd]
        clear hcd
        go_wp2
        go_ret
        exact ⟨(congrArg (fun x => Ending.returned (.bool x)) hq).symm, rfl⟩
    | cons sp l'' =>
      obtain ⟨s, p⟩ := sp
      obtain ⟨b, err, hv, hb, _, _, h2, hr⟩ := hc'.out
      subst hv
      obtain ⟨te, ye, he⟩ := hr.iface
      have hr' := Lib.hid hr
      subst he
      clear hr hc'
      go_wp2_with (go_at_call 22; refine (unwrap_any b _ _ h2).mono ?_; rintro e w' ⟨rfl, rfl⟩)
      go_roundg l''.length
      case measure => simp
      case rel => exact ⟨rfl, l'', rfl, hr'⟩

set_option maxHeartbeats 4000000 in
/-- errors.is at a code: an error of errors.New's is none. -/
theorem is_in_other (l : List (ByteArray × Int)) (v : Value) (x : Value) (d : Int) (w : World) (hch0 : Chain w (.iface 83 x) l v) :
    Calls Tryd.prog 33 #[v, .iface 22 (.int .i64 d), .bool true] w fun e w' => e = .returned (.bool false) ∧ w = w' := by
  have hch := Lib.hid hch0
  clear hch0
  have mU := methodUnwrap
  have nI := noIs42
  have hU := hasUnwrap42
  have q42 := fun x y => eql_fail 22 x y (by decide)
  have nI' := noIs83
  have nU' := noUnwrap83
  have nUs' := noUnwraps83
  have qo := eql_other
  go_enter Tryd.func33, Tryd.ntmps33
  go_wp2
  go_loopg [0] l.length (fun k v0 wr => w = wr ∧ ∃ l', k = l'.length ∧ Hid (Chain w (.iface 83 x) l' v0))
  case atStart => exact ⟨rfl, l, rfl, hch⟩
  case round =>
    obtain ⟨rfl, l', rfl, hc'⟩ := hrel
    cases l' with
    | nil =>
      have hv := hc'.out
      simp only [Chain] at hv
      subst hv
      go_wp2
      go_ret
      exact ⟨rfl, rfl⟩
    | cons sp l'' =>
      obtain ⟨s, p⟩ := sp
      obtain ⟨b, err, hv, hb, _, _, h2, hr⟩ := hc'.out
      subst hv
      obtain ⟨te, ye, he⟩ := hr.iface
      have hr' := Lib.hid hr
      subst he
      clear hr hc'
      go_wp2_with (go_at_call 22; refine (unwrap_any b _ _ h2).mono ?_; rintro e w' ⟨rfl, rfl⟩)
      go_roundg l''.length
      case measure => simp
      case rel => exact ⟨rfl, l'', rfl, hr'⟩

set_option maxHeartbeats 4000000 in
/-- errors.is at the very error of errors.New's that was wrapped. -/
theorem is_in_self (l : List (ByteArray × Int)) (v : Value) (a : Addr) (w : World) (hch0 : Chain w (.iface 83 (.pointer (some a))) l v) :
    Calls Tryd.prog 33 #[v, .iface 83 (.pointer (some a)), .bool true] w fun e w' => e = .returned (.bool true) ∧ w = w' := by
  have hch := Lib.hid hch0
  clear hch0
  have mU := methodUnwrap
  have nI := noIs42
  have hU := hasUnwrap42
  have q42 := fun x y => eql_fail 83 x y (by decide)
  have nI' := noIs83
  have nU' := noUnwrap83
  have nUs' := noUnwraps83
  have qo := eql_self
  go_enter Tryd.func33, Tryd.ntmps33
  go_wp2
  go_loopg [0] l.length (fun k v0 wr => w = wr ∧ ∃ l', k = l'.length ∧ Hid (Chain w (.iface 83 (.pointer (some a))) l' v0))
  case atStart => exact ⟨rfl, l, rfl, hch⟩
  case round =>
    obtain ⟨rfl, l', rfl, hc'⟩ := hrel
    cases l' with
    | nil =>
      have hv := hc'.out
      simp only [Chain] at hv
      subst hv
      go_wp2
      go_ret
      exact ⟨rfl, rfl⟩
    | cons sp l'' =>
      obtain ⟨s, p⟩ := sp
      obtain ⟨b, err, hv, hb, _, _, h2, hr⟩ := hc'.out
      subst hv
      obtain ⟨te, ye, he⟩ := hr.iface
      have hr' := Lib.hid hr
      subst he
      clear hr hc'
      go_wp2_with (go_at_call 22; refine (unwrap_any b _ _ h2).mono ?_; rintro e w' ⟨rfl, rfl⟩)
      go_roundg l''.length
      case measure => simp
      case rel => exact ⟨rfl, l'', rfl, hr'⟩
end Go.Proofs.YtcdjiejpccakaaaDoor
