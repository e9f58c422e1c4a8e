/- yardref.Config: are two configurations alike, field by field, item by item; all older memory stands. -/
import Derived.Test.YtpocjmlkhophoaaGreatDoorCmp2
import Derived.Test.YtpocjmlkhophoaaGreatDoorSam
import Derived.Test.YtpocjmlkhophoaaGreatDoorCfe
namespace Go.Proofs.YtpocjmlkhophoaaGreatDoor
open Go.RowKit Go.Extern.Stop Go.Stop Go.Extern

set_option maxRecDepth 100000 in
set_option maxHeartbeats 4000000 in
theorem cfe_w5 (c d : Cfg) (sl po pt ct sl2 po2 pt2 ct2 : Value) (w : World) (hl : ListsAt w c sl po pt ct) (hl2 : ListsAt w d sl2 po2 pt2 ct2) (hf : SomeC c) (hf2 : SomeC d) (h0 : (c.own != d.own) = false) (h1 : (c.master != d.master) = false) (h2 : (c.unsol != d.unsol) = false) (h3 : (c.reply != d.reply) = false) (h4 : (c.silence != d.silence) = false) (h5 : (c.retries != d.retries) = true) : Calls Tryz.prog 22 #[cfgV c sl po pt ct, cfgV d sl2 po2 pt2 ct2] w fun e w' => e = .returned (.bool false) ∧ Below w.heap.size w w' := by
  have HT0 := Lib.hid (two_start w c d sl po pt ct sl2 po2 pt2 ct2 hl hl2)
  obtain ⟨a1, q1, rfl, _⟩ := hl.sl.form
  obtain ⟨a2, q2, rfl, _⟩ := hl.po.form
  obtain ⟨a3, q3, rfl, _⟩ := hl.pt.form
  obtain ⟨a4, q4, rfl, _⟩ := hl.ct.form
  obtain ⟨b1, r1, rfl, _⟩ := hl2.sl.form
  obtain ⟨b2, r2, rfl, _⟩ := hl2.po.form
  obtain ⟨b3, r3, rfl, _⟩ := hl2.pt.form
  obtain ⟨b4, r4, rfl, _⟩ := hl2.ct.form
  have HF := Lib.hid (And.intro hf hf2)
  clear hl hl2 hf hf2
  have hub : ∀ w, (binOp .neq 4 (.bool c.unsol) (.bool d.unsol)).run Tryz.prog w = .ok (.bool false) w := fun w => (neq_bool c.unsol d.unsol w).trans (congrArg (fun b => Result.ok (Value.bool b) w) h2)
  clear h2
  unfold cfgV
  go_enter Tryz.func22, Tryz.ntmps22
  go_wp2_with (rename_i K hK; have HK := Lib.hid hK; clear hK)
  refine HK.out _ _ ?_
  clear HK
  generalize (w.alloc (.cells #[.int .i64 c.own, .int .i64 c.master, .bool c.unsol, .int .i64 c.reply, .int .i64 c.silence, .int .i64 c.retries, .int .i64 c.offline, .int .i64 c.select, .int .i64 c.confirm, .int .i64 c.frag, .int .i64 c.r0, .int .i64 c.r1, .int .i64 c.r2, (.slice a1 c.slaves.length q1), (.slice a2 c.polls.length q2), (.slice a3 c.points.length q3), (.slice a4 c.ctls.length q4)] 28)).alloc (.cells #[.int .i64 d.own, .int .i64 d.master, .bool d.unsol, .int .i64 d.reply, .int .i64 d.silence, .int .i64 d.retries, .int .i64 d.offline, .int .i64 d.select, .int .i64 d.confirm, .int .i64 d.frag, .int .i64 d.r0, .int .i64 d.r1, .int .i64 d.r2, (.slice b1 d.slaves.length r1), (.slice b2 d.polls.length r2), (.slice b3 d.points.length r3), (.slice b4 d.ctls.length r4)] 28) = w0 at *
  generalize Value.agg #[.int .i64 c.own, .int .i64 c.master, .bool c.unsol, .int .i64 c.reply, .int .i64 c.silence, .int .i64 c.retries, .int .i64 c.offline, .int .i64 c.select, .int .i64 c.confirm, .int .i64 c.frag, .int .i64 c.r0, .int .i64 c.r1, .int .i64 c.r2, (.slice a1 c.slaves.length q1), (.slice a2 c.polls.length q2), (.slice a3 c.points.length q3), (.slice a4 c.ctls.length q4)] = X1
  generalize Value.agg #[.int .i64 d.own, .int .i64 d.master, .bool d.unsol, .int .i64 d.reply, .int .i64 d.silence, .int .i64 d.retries, .int .i64 d.offline, .int .i64 d.select, .int .i64 d.confirm, .int .i64 d.frag, .int .i64 d.r0, .int .i64 d.r1, .int .i64 d.r2, (.slice b1 d.slaves.length r1), (.slice b2 d.polls.length r2), (.slice b3 d.points.length r3), (.slice b4 d.ctls.length r4)] = X2
  obtain ⟨k0, k1, k2, k3, k4, k5, k6, k7, k8, k9, k10, k11, k12⟩ := HT0.out.b1.fields
  obtain ⟨k13, k14, k15, k16⟩ := HT0.out.b1.lists
  obtain ⟨m0, m1, m2, m3, m4, m5, m6, m7, m8, m9, m10, m11, m12⟩ := HT0.out.b2.fields
  obtain ⟨m13, m14, m15, m16⟩ := HT0.out.b2.lists
  have HB := Lib.hid HT0.out.below
  go_wp2
  go_ret
  exact ⟨rfl, HB.out⟩
set_option maxRecDepth 100000 in
set_option maxHeartbeats 4000000 in
theorem cfe_w6 (c d : Cfg) (sl po pt ct sl2 po2 pt2 ct2 : Value) (w : World) (hl : ListsAt w c sl po pt ct) (hl2 : ListsAt w d sl2 po2 pt2 ct2) (hf : SomeC c) (hf2 : SomeC d) (h0 : (c.own != d.own) = false) (h1 : (c.master != d.master) = false) (h2 : (c.unsol != d.unsol) = false) (h3 : (c.reply != d.reply) = false) (h4 : (c.silence != d.silence) = false) (h5 : (c.retries != d.retries) = false) (h6 : (c.offline != d.offline) = true) : Calls Tryz.prog 22 #[cfgV c sl po pt ct, cfgV d sl2 po2 pt2 ct2] w fun e w' => e = .returned (.bool false) ∧ Below w.heap.size w w' := by
  have HT0 := Lib.hid (two_start w c d sl po pt ct sl2 po2 pt2 ct2 hl hl2)
  obtain ⟨a1, q1, rfl, _⟩ := hl.sl.form
  obtain ⟨a2, q2, rfl, _⟩ := hl.po.form
  obtain ⟨a3, q3, rfl, _⟩ := hl.pt.form
  obtain ⟨a4, q4, rfl, _⟩ := hl.ct.form
  obtain ⟨b1, r1, rfl, _⟩ := hl2.sl.form
  obtain ⟨b2, r2, rfl, _⟩ := hl2.po.form
  obtain ⟨b3, r3, rfl, _⟩ := hl2.pt.form
  obtain ⟨b4, r4, rfl, _⟩ := hl2.ct.form
  have HF := Lib.hid (And.intro hf hf2)
  clear hl hl2 hf hf2
  have hub : ∀ w, (binOp .neq 4 (.bool c.unsol) (.bool d.unsol)).run Tryz.prog w = .ok (.bool false) w := fun w => (neq_bool c.unsol d.unsol w).trans (congrArg (fun b => Result.ok (Value.bool b) w) h2)
  clear h2
  unfold cfgV
  go_enter Tryz.func22, Tryz.ntmps22
  go_wp2_with (rename_i K hK; have HK := Lib.hid hK; clear hK)
  refine HK.out _ _ ?_
  clear HK
  generalize (w.alloc (.cells #[.int .i64 c.own, .int .i64 c.master, .bool c.unsol, .int .i64 c.reply, .int .i64 c.silence, .int .i64 c.retries, .int .i64 c.offline, .int .i64 c.select, .int .i64 c.confirm, .int .i64 c.frag, .int .i64 c.r0, .int .i64 c.r1, .int .i64 c.r2, (.slice a1 c.slaves.length q1), (.slice a2 c.polls.length q2), (.slice a3 c.points.length q3), (.slice a4 c.ctls.length q4)] 28)).alloc (.cells #[.int .i64 d.own, .int .i64 d.master, .bool d.unsol, .int .i64 d.reply, .int .i64 d.silence, .int .i64 d.retries, .int .i64 d.offline, .int .i64 d.select, .int .i64 d.confirm, .int .i64 d.frag, .int .i64 d.r0, .int .i64 d.r1, .int .i64 d.r2, (.slice b1 d.slaves.length r1), (.slice b2 d.polls.length r2), (.slice b3 d.points.length r3), (.slice b4 d.ctls.length r4)] 28) = w0 at *
  generalize Value.agg #[.int .i64 c.own, .int .i64 c.master, .bool c.unsol, .int .i64 c.reply, .int .i64 c.silence, .int .i64 c.retries, .int .i64 c.offline, .int .i64 c.select, .int .i64 c.confirm, .int .i64 c.frag, .int .i64 c.r0, .int .i64 c.r1, .int .i64 c.r2, (.slice a1 c.slaves.length q1), (.slice a2 c.polls.length q2), (.slice a3 c.points.length q3), (.slice a4 c.ctls.length q4)] = X1
  generalize Value.agg #[.int .i64 d.own, .int .i64 d.master, .bool d.unsol, .int .i64 d.reply, .int .i64 d.silence, .int .i64 d.retries, .int .i64 d.offline, .int .i64 d.select, .int .i64 d.confirm, .int .i64 d.frag, .int .i64 d.r0, .int .i64 d.r1, .int .i64 d.r2, (.slice b1 d.slaves.length r1), (.slice b2 d.polls.length r2), (.slice b3 d.points.length r3), (.slice b4 d.ctls.length r4)] = X2
  obtain ⟨k0, k1, k2, k3, k4, k5, k6, k7, k8, k9, k10, k11, k12⟩ := HT0.out.b1.fields
  obtain ⟨k13, k14, k15, k16⟩ := HT0.out.b1.lists
  obtain ⟨m0, m1, m2, m3, m4, m5, m6, m7, m8, m9, m10, m11, m12⟩ := HT0.out.b2.fields
  obtain ⟨m13, m14, m15, m16⟩ := HT0.out.b2.lists
  have HB := Lib.hid HT0.out.below
  go_wp2
  go_ret
  exact ⟨rfl, HB.out⟩
set_option maxRecDepth 100000 in
set_option maxHeartbeats 4000000 in
theorem cfe_w7 (c d : Cfg) (sl po pt ct sl2 po2 pt2 ct2 : Value) (w : World) (hl : ListsAt w c sl po pt ct) (hl2 : ListsAt w d sl2 po2 pt2 ct2) (hf : SomeC c) (hf2 : SomeC d) (h0 : (c.own != d.own) = false) (h1 : (c.master != d.master) = false) (h2 : (c.unsol != d.unsol) = false) (h3 : (c.reply != d.reply) = false) (h4 : (c.silence != d.silence) = false) (h5 : (c.retries != d.retries) = false) (h6 : (c.offline != d.offline) = false) (h7 : (c.select != d.select) = true) : Calls Tryz.prog 22 #[cfgV c sl po pt ct, cfgV d sl2 po2 pt2 ct2] w fun e w' => e = .returned (.bool false) ∧ Below w.heap.size w w' := by
  have HT0 := Lib.hid (two_start w c d sl po pt ct sl2 po2 pt2 ct2 hl hl2)
  obtain ⟨a1, q1, rfl, _⟩ := hl.sl.form
  obtain ⟨a2, q2, rfl, _⟩ := hl.po.form
  obtain ⟨a3, q3, rfl, _⟩ := hl.pt.form
  obtain ⟨a4, q4, rfl, _⟩ := hl.ct.form
  obtain ⟨b1, r1, rfl, _⟩ := hl2.sl.form
  obtain ⟨b2, r2, rfl, _⟩ := hl2.po.form
  obtain ⟨b3, r3, rfl, _⟩ := hl2.pt.form
  obtain ⟨b4, r4, rfl, _⟩ := hl2.ct.form
  have HF := Lib.hid (And.intro hf hf2)
  clear hl hl2 hf hf2
  have hub : ∀ w, (binOp .neq 4 (.bool c.unsol) (.bool d.unsol)).run Tryz.prog w = .ok (.bool false) w := fun w => (neq_bool c.unsol d.unsol w).trans (congrArg (fun b => Result.ok (Value.bool b) w) h2)
  clear h2
  unfold cfgV
  go_enter Tryz.func22, Tryz.ntmps22
  go_wp2_with (rename_i K hK; have HK := Lib.hid hK; clear hK)
  refine HK.out _ _ ?_
  clear HK
  generalize (w.alloc (.cells #[.int .i64 c.own, .int .i64 c.master, .bool c.unsol, .int .i64 c.reply, .int .i64 c.silence, .int .i64 c.retries, .int .i64 c.offline, .int .i64 c.select, .int .i64 c.confirm, .int .i64 c.frag, .int .i64 c.r0, .int .i64 c.r1, .int .i64 c.r2, (.slice a1 c.slaves.length q1), (.slice a2 c.polls.length q2), (.slice a3 c.points.length q3), (.slice a4 c.ctls.length q4)] 28)).alloc (.cells #[.int .i64 d.own, .int .i64 d.master, .bool d.unsol, .int .i64 d.reply, .int .i64 d.silence, .int .i64 d.retries, .int .i64 d.offline, .int .i64 d.select, .int .i64 d.confirm, .int .i64 d.frag, .int .i64 d.r0, .int .i64 d.r1, .int .i64 d.r2, (.slice b1 d.slaves.length r1), (.slice b2 d.polls.length r2), (.slice b3 d.points.length r3), (.slice b4 d.ctls.length r4)] 28) = w0 at *
  generalize Value.agg #[.int .i64 c.own, .int .i64 c.master, .bool c.unsol, .int .i64 c.reply, .int .i64 c.silence, .int .i64 c.retries, .int .i64 c.offline, .int .i64 c.select, .int .i64 c.confirm, .int .i64 c.frag, .int .i64 c.r0, .int .i64 c.r1, .int .i64 c.r2, (.slice a1 c.slaves.length q1), (.slice a2 c.polls.length q2), (.slice a3 c.points.length q3), (.slice a4 c.ctls.length q4)] = X1
  generalize Value.agg #[.int .i64 d.own, .int .i64 d.master, .bool d.unsol, .int .i64 d.reply, .int .i64 d.silence, .int .i64 d.retries, .int .i64 d.offline, .int .i64 d.select, .int .i64 d.confirm, .int .i64 d.frag, .int .i64 d.r0, .int .i64 d.r1, .int .i64 d.r2, (.slice b1 d.slaves.length r1), (.slice b2 d.polls.length r2), (.slice b3 d.points.length r3), (.slice b4 d.ctls.length r4)] = X2
  obtain ⟨k0, k1, k2, k3, k4, k5, k6, k7, k8, k9, k10, k11, k12⟩ := HT0.out.b1.fields
  obtain ⟨k13, k14, k15, k16⟩ := HT0.out.b1.lists
  obtain ⟨m0, m1, m2, m3, m4, m5, m6, m7, m8, m9, m10, m11, m12⟩ := HT0.out.b2.fields
  obtain ⟨m13, m14, m15, m16⟩ := HT0.out.b2.lists
  have HB := Lib.hid HT0.out.below
  go_wp2
  go_ret
  exact ⟨rfl, HB.out⟩
set_option maxRecDepth 100000 in
set_option maxHeartbeats 4000000 in
theorem cfe_w8 (c d : Cfg) (sl po pt ct sl2 po2 pt2 ct2 : Value) (w : World) (hl : ListsAt w c sl po pt ct) (hl2 : ListsAt w d sl2 po2 pt2 ct2) (hf : SomeC c) (hf2 : SomeC d) (h0 : (c.own != d.own) = false) (h1 : (c.master != d.master) = false) (h2 : (c.unsol != d.unsol) = false) (h3 : (c.reply != d.reply) = false) (h4 : (c.silence != d.silence) = false) (h5 : (c.retries != d.retries) = false) (h6 : (c.offline != d.offline) = false) (h7 : (c.select != d.select) = false) (h8 : (c.confirm != d.confirm) = true) : Calls Tryz.prog 22 #[cfgV c sl po pt ct, cfgV d sl2 po2 pt2 ct2] w fun e w' => e = .returned (.bool false) ∧ Below w.heap.size w w' := by
  have HT0 := Lib.hid (two_start w c d sl po pt ct sl2 po2 pt2 ct2 hl hl2)
  obtain ⟨a1, q1, rfl, _⟩ := hl.sl.form
  obtain ⟨a2, q2, rfl, _⟩ := hl.po.form
  obtain ⟨a3, q3, rfl, _⟩ := hl.pt.form
  obtain ⟨a4, q4, rfl, _⟩ := hl.ct.form
  obtain ⟨b1, r1, rfl, _⟩ := hl2.sl.form
  obtain ⟨b2, r2, rfl, _⟩ := hl2.po.form
  obtain ⟨b3, r3, rfl, _⟩ := hl2.pt.form
  obtain ⟨b4, r4, rfl, _⟩ := hl2.ct.form
  have HF := Lib.hid (And.intro hf hf2)
  clear hl hl2 hf hf2
  have hub : ∀ w, (binOp .neq 4 (.bool c.unsol) (.bool d.unsol)).run Tryz.prog w = .ok (.bool false) w := fun w => (neq_bool c.unsol d.unsol w).trans (congrArg (fun b => Result.ok (Value.bool b) w) h2)
  clear h2
  unfold cfgV
  go_enter Tryz.func22, Tryz.ntmps22
  go_wp2_with (rename_i K hK; have HK := Lib.hid hK; clear hK)
  refine HK.out _ _ ?_
  clear HK
  generalize (w.alloc (.cells #[.int .i64 c.own, .int .i64 c.master, .bool c.unsol, .int .i64 c.reply, .int .i64 c.silence, .int .i64 c.retries, .int .i64 c.offline, .int .i64 c.select, .int .i64 c.confirm, .int .i64 c.frag, .int .i64 c.r0, .int .i64 c.r1, .int .i64 c.r2, (.slice a1 c.slaves.length q1), (.slice a2 c.polls.length q2), (.slice a3 c.points.length q3), (.slice a4 c.ctls.length q4)] 28)).alloc (.cells #[.int .i64 d.own, .int .i64 d.master, .bool d.unsol, .int .i64 d.reply, .int .i64 d.silence, .int .i64 d.retries, .int .i64 d.offline, .int .i64 d.select, .int .i64 d.confirm, .int .i64 d.frag, .int .i64 d.r0, .int .i64 d.r1, .int .i64 d.r2, (.slice b1 d.slaves.length r1), (.slice b2 d.polls.length r2), (.slice b3 d.points.length r3), (.slice b4 d.ctls.length r4)] 28) = w0 at *
  generalize Value.agg #[.int .i64 c.own, .int .i64 c.master, .bool c.unsol, .int .i64 c.reply, .int .i64 c.silence, .int .i64 c.retries, .int .i64 c.offline, .int .i64 c.select, .int .i64 c.confirm, .int .i64 c.frag, .int .i64 c.r0, .int .i64 c.r1, .int .i64 c.r2, (.slice a1 c.slaves.length q1), (.slice a2 c.polls.length q2), (.slice a3 c.points.length q3), (.slice a4 c.ctls.length q4)] = X1
  generalize Value.agg #[.int .i64 d.own, .int .i64 d.master, .bool d.unsol, .int .i64 d.reply, .int .i64 d.silence, .int .i64 d.retries, .int .i64 d.offline, .int .i64 d.select, .int .i64 d.confirm, .int .i64 d.frag, .int .i64 d.r0, .int .i64 d.r1, .int .i64 d.r2, (.slice b1 d.slaves.length r1), (.slice b2 d.polls.length r2), (.slice b3 d.points.length r3), (.slice b4 d.ctls.length r4)] = X2
  obtain ⟨k0, k1, k2, k3, k4, k5, k6, k7, k8, k9, k10, k11, k12⟩ := HT0.out.b1.fields
  obtain ⟨k13, k14, k15, k16⟩ := HT0.out.b1.lists
  obtain ⟨m0, m1, m2, m3, m4, m5, m6, m7, m8, m9, m10, m11, m12⟩ := HT0.out.b2.fields
  obtain ⟨m13, m14, m15, m16⟩ := HT0.out.b2.lists
  have HB := Lib.hid HT0.out.below
  go_wp2
  go_ret
  exact ⟨rfl, HB.out⟩
set_option maxRecDepth 100000 in
set_option maxHeartbeats 4000000 in
theorem cfe_w9 (c d : Cfg) (sl po pt ct sl2 po2 pt2 ct2 : Value) (w : World) (hl : ListsAt w c sl po pt ct) (hl2 : ListsAt w d sl2 po2 pt2 ct2) (hf : SomeC c) (hf2 : SomeC d) (h0 : (c.own != d.own) = false) (h1 : (c.master != d.master) = false) (h2 : (c.unsol != d.unsol) = false) (h3 : (c.reply != d.reply) = false) (h4 : (c.silence != d.silence) = false) (h5 : (c.retries != d.retries) = false) (h6 : (c.offline != d.offline) = false) (h7 : (c.select != d.select) = false) (h8 : (c.confirm != d.confirm) = false) (h9 : (c.frag != d.frag) = true) : Calls Tryz.prog 22 #[cfgV c sl po pt ct, cfgV d sl2 po2 pt2 ct2] w fun e w' => e = .returned (.bool false) ∧ Below w.heap.size w w' := by
  have HT0 := Lib.hid (two_start w c d sl po pt ct sl2 po2 pt2 ct2 hl hl2)
  obtain ⟨a1, q1, rfl, _⟩ := hl.sl.form
  obtain ⟨a2, q2, rfl, _⟩ := hl.po.form
  obtain ⟨a3, q3, rfl, _⟩ := hl.pt.form
  obtain ⟨a4, q4, rfl, _⟩ := hl.ct.form
  obtain ⟨b1, r1, rfl, _⟩ := hl2.sl.form
  obtain ⟨b2, r2, rfl, _⟩ := hl2.po.form
  obtain ⟨b3, r3, rfl, _⟩ := hl2.pt.form
  obtain ⟨b4, r4, rfl, _⟩ := hl2.ct.form
  have HF := Lib.hid (And.intro hf hf2)
  clear hl hl2 hf hf2
  have hub : ∀ w, (binOp .neq 4 (.bool c.unsol) (.bool d.unsol)).run Tryz.prog w = .ok (.bool false) w := fun w => (neq_bool c.unsol d.unsol w).trans (congrArg (fun b => Result.ok (Value.bool b) w) h2)
  clear h2
  unfold cfgV
  go_enter Tryz.func22, Tryz.ntmps22
  go_wp2_with (rename_i K hK; have HK := Lib.hid hK; clear hK)
  refine HK.out _ _ ?_
  clear HK
  generalize (w.alloc (.cells #[.int .i64 c.own, .int .i64 c.master, .bool c.unsol, .int .i64 c.reply, .int .i64 c.silence, .int .i64 c.retries, .int .i64 c.offline, .int .i64 c.select, .int .i64 c.confirm, .int .i64 c.frag, .int .i64 c.r0, .int .i64 c.r1, .int .i64 c.r2, (.slice a1 c.slaves.length q1), (.slice a2 c.polls.length q2), (.slice a3 c.points.length q3), (.slice a4 c.ctls.length q4)] 28)).alloc (.cells #[.int .i64 d.own, .int .i64 d.master, .bool d.unsol, .int .i64 d.reply, .int .i64 d.silence, .int .i64 d.retries, .int .i64 d.offline, .int .i64 d.select, .int .i64 d.confirm, .int .i64 d.frag, .int .i64 d.r0, .int .i64 d.r1, .int .i64 d.r2, (.slice b1 d.slaves.length r1), (.slice b2 d.polls.length r2), (.slice b3 d.points.length r3), (.slice b4 d.ctls.length r4)] 28) = w0 at *
  generalize Value.agg #[.int .i64 c.own, .int .i64 c.master, .bool c.unsol, .int .i64 c.reply, .int .i64 c.silence, .int .i64 c.retries, .int .i64 c.offline, .int .i64 c.select, .int .i64 c.confirm, .int .i64 c.frag, .int .i64 c.r0, .int .i64 c.r1, .int .i64 c.r2, (.slice a1 c.slaves.length q1), (.slice a2 c.polls.length q2), (.slice a3 c.points.length q3), (.slice a4 c.ctls.length q4)] = X1
  generalize Value.agg #[.int .i64 d.own, .int .i64 d.master, .bool d.unsol, .int .i64 d.reply, .int .i64 d.silence, .int .i64 d.retries, .int .i64 d.offline, .int .i64 d.select, .int .i64 d.confirm, .int .i64 d.frag, .int .i64 d.r0, .int .i64 d.r1, .int .i64 d.r2, (.slice b1 d.slaves.length r1), (.slice b2 d.polls.length r2), (.slice b3 d.points.length r3), (.slice b4 d.ctls.length r4)] = X2
  obtain ⟨k0, k1, k2, k3, k4, k5, k6, k7, k8, k9, k10, k11, k12⟩ := HT0.out.b1.fields
  obtain ⟨k13, k14, k15, k16⟩ := HT0.out.b1.lists
  obtain ⟨m0, m1, m2, m3, m4, m5, m6, m7, m8, m9, m10, m11, m12⟩ := HT0.out.b2.fields
  obtain ⟨m13, m14, m15, m16⟩ := HT0.out.b2.lists
  have HB := Lib.hid HT0.out.below
  go_wp2
  go_ret
  exact ⟨rfl, HB.out⟩
end Go.Proofs.YtpocjmlkhophoaaGreatDoor
