/- One configuration's box and lists, as they came; errors of one step. -/
import Derived.Test.YtpocjmlkhophoaaGreatDoorGrow2
import Derived.Test.YtpocjmlkhophoaaGreatDoorFs2
namespace Go.Proofs.YtpocjmlkhophoaaGreatDoor
open Go.RowKit Go.Extern.Stop Go.Stop Go.Extern

structure OneIn (w : World) (g : Nat) (c : Cfg) (sl po pt ct : Value) (wr : World) : Prop where
  below : Below w.heap.size w wr
  box : CfgBox wr g c sl po pt ct
  lists : ListsAt wr c sl po pt ct
theorem OneIn.on {w : World} {g : Nat} {c : Cfg} {sl po pt ct : Value} {wr w' : World} (h : OneIn w g c sl po pt ct wr) (hb : Below wr.heap.size wr w') : OneIn w g c sl po pt ct w' := ⟨h.below.trans (hb.mono h.below.size), h.box.on hb, h.lists.on hb⟩
theorem one_start (w : World) (c : Cfg) (sl po pt ct : Value) (hl : ListsAt w c sl po pt ct) : OneIn w w.heap.size c sl po pt ct (w.alloc (.cells #[.int .i64 c.own, .int .i64 c.master, .bool c.unsol, .int .i64 c.reply, .int .i64 c.silence, .int .i64 c.retries, .int .i64 c.offline, .int .i64 c.select, .int .i64 c.confirm, .int .i64 c.frag, .int .i64 c.r0, .int .i64 c.r1, .int .i64 c.r2, sl, po, pt, ct] 28)) :=
  ⟨below_new w _, cfgBox_new w c sl po pt ct, hl.on (below_new w _)⟩
theorem wconcat (a b : ByteArray) (h : a.size + b.size ≤ 3000000) (w : World) : (Op.stringOp .add a b).run Tryz.prog w = .ok (.string (a ++ b)) w := by
  have h' : ¬ ((a.size + b.size : Nat) : Int) > IntKind.i64.max := by
    have : IntKind.i64.max = 9223372036854775807 := by decide
    rw [this]
    omega
  unfold Op.stringOp
  simp only [if_neg h']
  rfl
theorem errIs_nil0 {w : World} {r : Res} {v : Value} (h0 : r.2 = 0) (h : ErrIs w r v) : v = .nilIface := by
  unfold ErrIs at h
  rw [if_pos h0] at h
  exact h
/-- The first fields hold, the next does not. -/
theorem first_at {f : Nat → Bool} : ∀ (k i n : Nat), k < n → (∀ j, i ≤ j → j < i + k → f j = true) → f (i + k) = false → firstFrom f i n = some (i + k)
  | 0, i, 0, h, _, _ => by omega
  | 0, i, n + 1, _, _, h => by
    unfold firstFrom
    rw [Nat.add_zero] at h ⊢
    rw [h]
    rfl
  | k + 1, i, 0, h, _, _ => by omega
  | k + 1, i, n + 1, hn, ha, h => by
    unfold firstFrom
    rw [ha i (Nat.le_refl _) (by omega)]
    have e : i + 1 + k = i + (k + 1) := by omega
    rw [if_pos rfl, first_at k (i + 1) n (by omega) (fun j h1 h2 => ha j (by omega) (by omega)) (by rw [e]; exact h), e]
theorem fields_true {c : Cfg} (h : (checkR c).2 = 0) : ∀ j, j < 10 → fieldsN c j = true := by
  have h1 := (ror_zero h).1
  unfold fieldsR at h1
  cases hf : firstFrom (fieldsN c) 0 10 with
  | none => exact fun j hj => first_all hf j (Nat.zero_le _) (by omega)
  | some i => rw [hf] at h1; simp at h1
theorem check_field {c : Cfg} (k : Nat) (hk : k < 10) (ha : ∀ j, j < k → fieldsN c j = true) (h : fieldsN c k = false) : checkR c = ([(sConfig, ((k : Int) + 1))], 1) := by
  have h1 : fieldsR c = ([(sConfig, ((k : Int) + 1))], 1) := by
    unfold fieldsR
    rw [first_at k 0 10 hk (fun j _ hj => ha j (by omega)) (by rw [Nat.zero_add]; exact h), Nat.zero_add]
  unfold checkR
  rw [h1]
  rfl
end Go.Proofs.YtpocjmlkhophoaaGreatDoor
