/- Configurations as plain values, the conditions that chapter 6 puts on them, and how they lie in memory. -/
import Derived.Test.YtpocjmlkhophoaaGreatDoorWFirst
import Derived.Test.YtpocjmlkhophoaaGreatDoorSMay
namespace Go.Proofs.YtpocjmlkhophoaaGreatDoor
open Go.RowKit Go.Extern.Stop Go.Stop Go.Extern

structure Poll where
  slave : Int
  func : Int
  start : Int
  count : Int
  every : Int
structure Pt where
  kind : Int
  poll : Int
  place : Int
  cls : Int
  dead : Int
  num : Int
  den : Int
  off : Int
structure Ctl where
  kind : Int
  slave : Int
  reg : Int
structure Cfg where
  own : Int
  master : Int
  unsol : Bool
  reply : Int
  silence : Int
  retries : Int
  offline : Int
  select : Int
  confirm : Int
  frag : Int
  r0 : Int
  r1 : Int
  r2 : Int
  slaves : List Int
  polls : List Poll
  points : List Pt
  ctls : List Ctl

def Poll.val (p : Poll) : Value := .agg #[.int .i64 p.slave, .int .i64 p.func, .int .i64 p.start, .int .i64 p.count, .int .i64 p.every]
def Pt.val (p : Pt) : Value := .agg #[.int .i64 p.kind, .int .i64 p.poll, .int .i64 p.place, .int .i64 p.cls, .int .i64 p.dead, .int .i64 p.num, .int .i64 p.den, .int .i64 p.off]
def Ctl.val (p : Ctl) : Value := .agg #[.int .i64 p.kind, .int .i64 p.slave, .int .i64 p.reg]

def icells (l : List Int) : List Value := l.map fun x => .int .i64 x
def pollCells : List Poll → List Value
  | [] => []
  | p :: l => .int .i64 p.slave :: .int .i64 p.func :: .int .i64 p.start :: .int .i64 p.count :: .int .i64 p.every :: pollCells l
def ptCells : List Pt → List Value
  | [] => []
  | p :: l => .int .i64 p.kind :: .int .i64 p.poll :: .int .i64 p.place :: .int .i64 p.cls :: .int .i64 p.dead :: .int .i64 p.num :: .int .i64 p.den :: .int .i64 p.off :: ptCells l
def ctlCells : List Ctl → List Value
  | [] => []
  | p :: l => .int .i64 p.kind :: .int .i64 p.slave :: .int .i64 p.reg :: ctlCells l

theorem icells_length (l : List Int) : (icells l).length = l.length := by simp [icells]
theorem pollCells_length : ∀ l : List Poll, (pollCells l).length = l.length * 5
  | [] => rfl
  | _ :: l => by simp [pollCells, pollCells_length l]; omega
theorem ptCells_length : ∀ l : List Pt, (ptCells l).length = l.length * 8
  | [] => rfl
  | _ :: l => by simp [ptCells, ptCells_length l]; omega
theorem ctlCells_length : ∀ l : List Ctl, (ctlCells l).length = l.length * 3
  | [] => rfl
  | _ :: l => by simp [ctlCells, ctlCells_length l]; omega
theorem icells_get (l : List Int) (i : Nat) (h : i < l.length) : (icells l)[i]? = some (.int .i64 l[i]) := by simp [icells, h]
theorem pollCells_get : ∀ (l : List Poll) (i : Nat) (h : i < l.length), (pollCells l)[i * 5]? = some (.int .i64 l[i].slave) ∧ (pollCells l)[i * 5 + 1]? = some (.int .i64 l[i].func) ∧ (pollCells l)[i * 5 + 2]? = some (.int .i64 l[i].start) ∧ (pollCells l)[i * 5 + 3]? = some (.int .i64 l[i].count) ∧ (pollCells l)[i * 5 + 4]? = some (.int .i64 l[i].every)
  | _ :: _, 0, _ => ⟨rfl, rfl, rfl, rfl, rfl⟩
  | _ :: l, i + 1, h => by
    have := pollCells_get l i (by simpa using h)
    have e : (i + 1) * 5 = i * 5 + 1 + 1 + 1 + 1 + 1 := by omega
    rw [e]
    simpa [pollCells] using this
theorem ptCells_get : ∀ (l : List Pt) (i : Nat) (h : i < l.length), (ptCells l)[i * 8]? = some (.int .i64 l[i].kind) ∧ (ptCells l)[i * 8 + 1]? = some (.int .i64 l[i].poll) ∧ (ptCells l)[i * 8 + 2]? = some (.int .i64 l[i].place) ∧ (ptCells l)[i * 8 + 3]? = some (.int .i64 l[i].cls) ∧ (ptCells l)[i * 8 + 4]? = some (.int .i64 l[i].dead) ∧ (ptCells l)[i * 8 + 5]? = some (.int .i64 l[i].num) ∧ (ptCells l)[i * 8 + 6]? = some (.int .i64 l[i].den) ∧ (ptCells l)[i * 8 + 7]? = some (.int .i64 l[i].off)
  | _ :: _, 0, _ => ⟨rfl, rfl, rfl, rfl, rfl, rfl, rfl, rfl⟩
  | _ :: l, i + 1, h => by
    have := ptCells_get l i (by simpa using h)
    have e : (i + 1) * 8 = i * 8 + 1 + 1 + 1 + 1 + 1 + 1 + 1 + 1 := by omega
    rw [e]
    simpa [ptCells] using this
theorem ctlCells_get : ∀ (l : List Ctl) (i : Nat) (h : i < l.length), (ctlCells l)[i * 3]? = some (.int .i64 l[i].kind) ∧ (ctlCells l)[i * 3 + 1]? = some (.int .i64 l[i].slave) ∧ (ctlCells l)[i * 3 + 2]? = some (.int .i64 l[i].reg)
  | _ :: _, 0, _ => ⟨rfl, rfl, rfl⟩
  | _ :: l, i + 1, h => by
    have := ctlCells_get l i (by simpa using h)
    have e : (i + 1) * 3 = i * 3 + 1 + 1 + 1 := by omega
    rw [e]
    simpa [ctlCells] using this

/-- A slice of n elements that lies somewhere, cell by cell. -/
def LiesAt (w : World) (v : Value) (n : Nat) (xs : List Value) : Prop :=
  ∃ ao cap, v = .slice ao n cap ∧ n ≤ cap ∧ ∀ i u, xs[i]? = some u → ∃ b off, ao = some ⟨b, off, none⟩ ∧ w.cell? ⟨b, off + i, none⟩ = some u
theorem LiesAt.on {w w' : World} {v : Value} {n : Nat} {xs : List Value} (h : LiesAt w v n xs) (hb : Below w.heap.size w w') : LiesAt w' v n xs := by
  obtain ⟨ao, cap, e, hn, hc⟩ := h
  refine ⟨ao, cap, e, hn, fun i u hi => ?_⟩
  obtain ⟨b, off, e', hk⟩ := hc i u hi
  exact ⟨b, off, e', (hb.cell (p := ⟨b, off + i, none⟩) (lt_cell hk)).trans hk⟩

/-- A configuration's value. -/
def cfgV (c : Cfg) (sl po pt ct : Value) : Value := .agg #[.int .i64 c.own, .int .i64 c.master, .bool c.unsol, .int .i64 c.reply, .int .i64 c.silence, .int .i64 c.retries, .int .i64 c.offline, .int .i64 c.select, .int .i64 c.confirm, .int .i64 c.frag, .int .i64 c.r0, .int .i64 c.r1, .int .i64 c.r2, sl, po, pt, ct]
/-- Its four lists. -/
structure ListsAt (w : World) (c : Cfg) (sl po pt ct : Value) : Prop where
  sl : LiesAt w sl c.slaves.length (icells c.slaves)
  po : LiesAt w po c.polls.length (pollCells c.polls)
  pt : LiesAt w pt c.points.length (ptCells c.points)
  ct : LiesAt w ct c.ctls.length (ctlCells c.ctls)
theorem ListsAt.on {w w' : World} {c : Cfg} {sl po pt ct : Value} (h : ListsAt w c sl po pt ct) (hb : Below w.heap.size w w') : ListsAt w' c sl po pt ct := ⟨h.sl.on hb, h.po.on hb, h.pt.on hb, h.ct.on hb⟩

/-- Its numbers are ints of Go's. -/
def I64 (n : Int) : Prop := -9223372036854775808 ≤ n ∧ n ≤ 9223372036854775807

def pollN (p : Poll) (ns : Int) : Bool := within p.slave 0 (ns - 1) && (within p.func 1 4 && (within p.count 1 100 && (within p.start 0 (65536 - p.count) && within p.every 1 10000)))
def unscaledN (p : Pt) : Bool := p.num == 1 && (p.den == 1 && (p.off == 0 && p.dead == 0))
def kindN (p : Pt) (q : Poll) : Bool :=
  if p.kind = 2 then (if q.count - 2 < p.place then false else within q.func 1 2 && unscaledN p)
  else if p.kind = 1 then within q.func 1 2 && unscaledN p
  else if p.kind = 4 then (if unscaledN p then within q.func 3 4 else false)
  else if p.kind = 3 then within q.func 3 4 else false
def noPoll : Poll := ⟨0, 0, 0, 0, 0⟩
def pollAt (qs : List Poll) (i : Int) : Poll := qs.getD i.toNat noPoll
def pointN (p : Pt) (qs : List Poll) : Bool := within p.poll 0 ((qs.length : Int) - 1) && (within p.place 0 ((pollAt qs p.poll).count - 1) && (within p.cls 0 3 && (mayN p.dead p.num p.den p.off && kindN p (pollAt qs p.poll))))
def ctlN (k : Ctl) (ns : Int) : Bool := (k.kind == 6 || k.kind == 7) && (within k.slave 0 (ns - 1) && within k.reg 0 65535)
def slaveN (l : List Int) (i : Nat) : Bool := within (l.getD i 0) 1 247 && !((l.take i).contains (l.getD i 0))

/-- The first of k from i on that does not hold. -/
def firstFrom (f : Nat → Bool) (i : Nat) : Nat → Option Nat
  | 0 => none
  | k + 1 => if f i then firstFrom f (i + 1) k else some i

def sConfig : ByteArray := ⟨#[99, 111, 110, 102, 105, 103]⟩
def sItem : ByteArray := ⟨#[105, 116, 101, 109]⟩
/-- A code and its path; code 0: none. -/
abbrev Res := List (ByteArray × Int) × Int
def okR : Res := ([], 0)
def listR (number most : Int) (n : Nat) (f : Nat → Bool) : Res :=
  if most < n then ([(sConfig, number)], 3) else
  match firstFrom f 0 n with
  | none => okR
  | some i => ([(sConfig, number), (sItem, (i : Int))], 1)
def roomN (a b c : Int) : Bool := within a 1 60 && (within b 1 60 && within c 1 60)
def fieldsN (c : Cfg) (i : Nat) : Bool :=
  match i with
  | 0 => within c.own 0 65519
  | 1 => within c.master 0 65519 && c.master != c.own
  | 2 => within c.reply 1 10000
  | 3 => within c.silence 1 (min 100 c.reply)
  | 4 => within c.retries 0 5
  | 5 => within c.offline 1 10
  | 6 => within c.select 1 10000
  | 7 => within c.confirm 1 10000
  | 8 => within c.frag 249 2048
  | _ => roomN c.r0 c.r1 c.r2
def fieldsR (c : Cfg) : Res :=
  match firstFrom (fieldsN c) 0 10 with
  | none => okR
  | some i => ([(sConfig, (i : Int) + 1)], 1)
def slavesR (c : Cfg) : Res := if c.slaves.length = 0 then ([(sConfig, 11)], 1) else listR 11 8 c.slaves.length (slaveN c.slaves)
def pollsR (c : Cfg) : Res := listR 12 16 c.polls.length fun i => pollN (c.polls.getD i noPoll) c.slaves.length
def noPt : Pt := ⟨0, 0, 0, 0, 0, 0, 0, 0⟩
def noCtl : Ctl := ⟨0, 0, 0⟩
def pointsR (c : Cfg) : Res := listR 13 64 c.points.length fun i => pointN (c.points.getD i noPt) c.polls
def ctlsR (c : Cfg) : Res := listR 14 32 c.ctls.length fun i => ctlN (c.ctls.getD i noCtl) c.slaves.length
def Res.or (a b : Res) : Res := if a.2 = 0 then b else a
/-- What Check finds first. -/
def checkR (c : Cfg) : Res := Res.or (fieldsR c) (Res.or (slavesR c) (Res.or (pollsR c) (Res.or (pointsR c) (ctlsR c))))

/-- An error of the program's that has that code and path. -/
def ErrIs (w : World) (r : Res) (v : Value) : Prop := if r.2 = 0 then v = .nilIface else Chain w (.iface 32 (.int .i64 r.2)) r.1 v
theorem ErrIs.on {w w' : World} {r : Res} {v : Value} (h : ErrIs w r v) (hb : Below w.heap.size w w') : ErrIs w' r v := by
  unfold ErrIs at *
  split
  · rename_i h0; rw [if_pos h0] at h; exact h
  · rename_i h0; rw [if_neg h0] at h; exact Chain.on hb h
end Go.Proofs.YtpocjmlkhophoaaGreatDoor
