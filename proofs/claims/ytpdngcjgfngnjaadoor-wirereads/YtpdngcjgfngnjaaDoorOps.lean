/- Fields as they came in; yardlaw2.few and yardlaw2.put: what they answer, for every list of fields; what the bytes of a field are, and that they tell its number. -/
import Derived.Test.YtpdngcjgfngnjaaDoorOwn
namespace Go.Proofs.YtpdngcjgfngnjaaDoor
open Go.RowKit Go.Extern.Stop Go.Stop Go.Extern

/-- A field: its kind, its number of bytes, its number, and its bytes. -/
structure OpV where
  kind : Int
  n : Int
  x : Int
  bv : Value
  b : List UInt8
def opCells (o : OpV) : List Value := [.int .i64 o.kind, .int .i64 o.n, .int .i64 o.x, o.bv]
/-- A list of fields that lies somewhere, cell by cell. -/
def OpsAt (w : World) (v : Value) (l : List OpV) : Prop :=
  ∃ ao cap, v = .slice ao l.length cap ∧ (∀ o ∈ l, BytesAt w o.bv o.b) ∧ ∀ i (h : i < l.length), ∃ b off, ao = some ⟨b, off, none⟩ ∧ w.cell? ⟨b, off + i * 4, none⟩ = some (.int .i64 l[i].kind) ∧ w.cell? ⟨b, off + i * 4 + 1, none⟩ = some (.int .i64 l[i].n) ∧
    w.cell? ⟨b, off + i * 4 + 2, none⟩ = some (.int .i64 l[i].x) ∧ w.cell? ⟨b, off + i * 4 + 3, none⟩ = some l[i].bv
theorem OpsAt.on {w w' : World} {v : Value} {l : List OpV} (h : OpsAt w v l) (hb : Below w.heap.size w w') : OpsAt w' v l := by
  obtain ⟨ao, cap, hv, hB, h⟩ := h
  refine ⟨ao, cap, hv, fun o ho => (hB o ho).on hb, fun i hi => ?_⟩
  obtain ⟨b, off, ha, h0, h1, h2, h3⟩ := h i hi
  have hlt := lt_cell h0
  exact ⟨b, off, ha, (hb.cell (p := ⟨b, off + i * 4, none⟩) hlt).trans h0, (hb.cell (p := ⟨b, off + i * 4 + 1, none⟩) hlt).trans h1, (hb.cell (p := ⟨b, off + i * 4 + 2, none⟩) hlt).trans h2, (hb.cell (p := ⟨b, off + i * 4 + 3, none⟩) hlt).trans h3⟩

def fewSum : List OpV → Nat
  | [] => 0
  | o :: l => min o.b.length 20001 + fewSum l
theorem fewSum_append : ∀ l m : List OpV, fewSum (l ++ m) = fewSum l + fewSum m
  | [], _ => by simp [fewSum]
  | x :: l, m => by simp only [List.cons_append, fewSum, fewSum_append l m]; omega
theorem fewSum_le : ∀ l : List OpV, fewSum l ≤ l.length * 20001
  | [] => by simp [fewSum]
  | x :: l => by have := fewSum_le l; simp only [fewSum, List.length_cons]; omega
theorem fewSum_take_succ (l : List OpV) (i : Nat) (h : i < l.length) : fewSum (l.take (i + 1)) = fewSum (l.take i) + min l[i].b.length 20001 := by
  rw [List.take_succ_eq_append_getElem h, fewSum_append]
  simp [fewSum]
def fewB (l : List OpV) : Bool := decide (l.length ≤ 1000) && decide (fewSum (l.take 1000) ≤ 20000)
theorem ret_bool {a b : Bool} (h : a = b) : Ending.returned (.bool a) = .returned (.bool b) := by rw [h]

set_option maxRecDepth 100000 in
set_option maxHeartbeats 4000000 in
theorem few_any (v : Value) (l : List OpV) (w : World) (hs : OpsAt w v l) :
    Calls Tryd.prog 12 #[v] w fun e w' => e = .returned (.bool (fewB l)) ∧ w = w' := by
  obtain ⟨ao, cap, rfl, hB, hcell⟩ := hs
  have HC := Lib.hid hcell
  have HBy := Lib.hid hB
  clear hcell hB
  go_enter Tryd.func12, Tryd.ntmps12
  go_wp2
  go_loopg [3, 4] 1000 (fun k s3 s4 wr => w = wr ∧ ∃ i : Nat, i ≤ l.length ∧ i ≤ 1000 ∧ k = 1000 - i ∧ s3 = .int .i64 (fewSum (l.take i) : Nat) ∧ s4 = .int .i64 i)
  case atStart => exact ⟨rfl, 0, Nat.zero_le _, Nat.zero_le _, rfl, rfl, rfl⟩
  case round =>
    obtain ⟨rfl, i, hi, hi2, rfl, rfl, rfl⟩ := hrel
    have hsum : fewSum (l.take i) ≤ 1000 * 20001 := Nat.le_trans (fewSum_le _) (by rw [List.length_take]; exact Nat.mul_le_mul_right _ (by omega))
    by_cases hlt : i < l.length
    · by_cases hlt2 : i < 1000
      · obtain ⟨b, off, rfl, h0, h1, h2, h3⟩ := HC.out i hlt
        obtain ⟨ab, cb, hbv, _⟩ := HBy.out l[i] (List.getElem_mem _)
        rw [hbv] at h3
        have hstep := fewSum_take_succ l i hlt
        have HS := Lib.hid hstep
        clear hstep hbv
        go_wp2
        all_goals
          go_roundg (1000 - (i + 1))
          case measure => omega
          case rel => exact ⟨rfl, i + 1, by omega, by omega, rfl, by rw [HS.out]; congr 1; omega, by go_num⟩
      · have hf : Hid (fewB l = false) := Lib.hid (by simp [fewB]; omega)
        have h2 : ¬ l.length ≤ 1000 := by omega
        go_wp2
        go_ret
        exact ⟨(ret_bool hf.out).symm, rfl⟩
    · have h2 : l.length ≤ 1000 := by omega
      have ht : fewSum (l.take i) = fewSum (l.take 1000) := by rw [List.take_of_length_le (by omega), List.take_of_length_le (by omega)]
      have hf : Hid (decide ((fewSum (l.take i) : Int) ≤ 20000) = fewB l) := Lib.hid (by
        rw [ht, Bool.eq_iff_iff]
        simp [fewB, h2]
        omega)
      clear ht
      go_wp2
      go_ret
      exact ⟨ret_bool hf.out, rfl⟩
theorem few_bound {l : List OpV} (h : fewB l = true) : l.length ≤ 1000 ∧ fewSum l ≤ 20000 := by
  simp only [fewB, Bool.and_eq_true, decide_eq_true_eq] at h
  obtain ⟨h2, h3⟩ := h
  rw [List.take_of_length_le h2] at h3
  exact ⟨h2, h3⟩

/-! ### A field's bytes -/
def opFits (o : OpV) : Prop := (o.kind = 0 ∧ UFits o.n o.x) ∨ (o.kind = 1 ∧ SFits o.n o.x) ∨ (o.kind = 2 ∧ UFits o.n o.x) ∨ (o.kind ≠ 0 ∧ o.kind ≠ 1 ∧ o.kind ≠ 2)
def opEnc (o : OpV) : List UInt8 := if o.kind = 0 then leBytes o.n.toNat o.x else if o.kind = 1 then leBytes o.n.toNat o.x else if o.kind = 2 then (leBytes o.n.toNat o.x).reverse else o.b
def encAll (l : List OpV) : List UInt8 := l.flatMap opEnc
theorem encAll_append (l m : List OpV) : encAll (l ++ m) = encAll l ++ encAll m := by simp [encAll]
theorem encAll_one (o : OpV) : encAll [o] = opEnc o := by simp [encAll]
theorem opEnc_length (o : OpV) (h : opFits o) (hb : o.b.length ≤ 20000) : (opEnc o).length ≤ 6 + min o.b.length 20001 := by
  unfold opEnc
  rcases h with ⟨hk, hf⟩ | ⟨hk, hf⟩ | ⟨hk, hf⟩ | ⟨h0, h1, h2⟩
  · rw [if_pos hk, leBytes_length]; have := hf.1; omega
  · rw [if_neg (by omega), if_pos hk, leBytes_length]; have := hf.1; omega
  · rw [if_neg (by omega), if_neg (by omega), if_pos hk, List.length_reverse, leBytes_length]; have := hf.1; omega
  · rw [if_neg h0, if_neg h1, if_neg h2]; omega
theorem fewSum_mem : ∀ {l : List OpV} {o : OpV}, o ∈ l → min o.b.length 20001 ≤ fewSum l
  | y :: l, o, h => by
    rcases List.mem_cons.1 h with rfl | h
    · simp only [fewSum]; omega
    · have := fewSum_mem h; simp only [fewSum]; omega

theorem emod_step (x : Int) (M : Nat) (hM : 0 < M) : x % ((256 * M : Nat) : Int) = x % 256 + 256 * (x / 256 % (M : Int)) := by
  have h1 : 0 ≤ x / 256 % (M : Int) := Int.emod_nonneg _ (by omega)
  have h2 : x / 256 % (M : Int) < M := Int.emod_lt_of_pos _ (by omega)
  have h3 : x / 256 = M * (x / 256 / M) + x / 256 % M := (Int.mul_ediv_add_emod (x / 256) M).symm
  have h4 : x = (x % 256 + 256 * (x / 256 % (M : Int))) + ((256 * M : Nat) : Int) * (x / 256 / M) := by
    have h5 : x = 256 * (x / 256) + x % 256 := (Int.mul_ediv_add_emod x 256).symm
    have h6 : ((256 * M : Nat) : Int) * (x / 256 / M) = 256 * (M * (x / 256 / M)) := by rw [Int.natCast_mul, Int.mul_assoc]; rfl
    rw [h6]
    generalize (M : Int) * (x / 256 / M) = A at *
    omega
  have h7 : (x % 256 + 256 * (x / 256 % (M : Int)) + ((256 * M : Nat) : Int) * (x / 256 / M)) % ((256 * M : Nat) : Int) = x % 256 + 256 * (x / 256 % (M : Int)) := by
    rw [Int.add_mul_emod_self_left]
    exact Int.emod_eq_of_lt (by omega) (by omega)
  rw [← h4] at h7
  exact h7
theorem leNum_leBytes : ∀ (n : Nat) (x : Int), ((leNum (leBytes n x) : Nat) : Int) = x % ((256 ^ n : Nat) : Int)
  | 0, x => by simp [leBytes, leNum]
  | n + 1, x => by
    rw [Nat.pow_succ, Nat.mul_comm, emod_step x (256 ^ n) (Nat.pow_pos (by omega)), ← leNum_leBytes n (x / 256)]
    simp only [leBytes, leNum, UInt8.toNat_ofNat']
    omega
theorem back_u (n : Nat) (x : Int) (h : UFits n x) : ((leNum (leBytes n x) : Nat) : Int) = x := by
  rw [leNum_leBytes]
  have h2 := h.2
  rw [Int.toNat_natCast] at h2
  exact Int.emod_eq_of_lt h2.1 h2.2
theorem back_s (n : Nat) (x : Int) (h : SFits n x) : sgnNum n (leNum (leBytes n x)) = x := by
  have h2 := h.2
  rw [Int.toNat_natCast] at h2
  have hn := leNum_leBytes n x
  have hp : 0 < 256 ^ n := Nat.pow_pos (by omega)
  unfold sgnNum
  generalize leNum (leBytes n x) = y at *
  generalize 256 ^ n = S at *
  by_cases hx : 0 ≤ x
  · rw [Int.emod_eq_of_lt hx (by omega)] at hn
    rw [if_neg (by omega)]
    exact hn
  · have : x % (S : Int) = x + S := by
      rw [← Int.add_emod_right]
      exact Int.emod_eq_of_lt (by omega) (by omega)
    rw [this] at hn
    rw [if_pos (by omega)]
    omega

/-! ### put -/
theorem PutIs.after {w w1 w2 : World} {B b : Nat} {v : Value} {l m : List UInt8} (hb : Below w.heap.size w w1) (h : PutIs w1 B b v l m w2) : PutIs w B b v l m w2 := by
  obtain ⟨v', h1, h2, h3⟩ := h
  refine ⟨v', h1, (Off.of_below _ hb).trans h2, fun k hk => ?_⟩
  rcases h3 k hk with h | h
  · exact .inl h
  · exact .inr (Nat.le_trans hb.size h)

set_option maxRecDepth 100000 in
set_option maxHeartbeats 1000000 in
theorem put_ok (B b : Nat) (v : Value) (l : List UInt8) (o : OpV) (w : World) (h : WrAt w B b v l) (hl : l.length + o.b.length ≤ 140737488355000) (ho : BytesAt w o.bv o.b) (hf : opFits o) :
    Calls Tryd.prog 33 #[.pointer (some ⟨b, 0, none⟩), .agg #[.int .i64 o.kind, .int .i64 o.n, .int .i64 o.x, o.bv]] w fun e w' => e = .returned .nilIface ∧ PutIs w B b v l (opEnc o) w' := by
  obtain ⟨kind, n, x, bv, bs⟩ := o
  have hbw : Below w.heap.size w (w.alloc (.cells #[.int .i64 kind, .int .i64 n, .int .i64 x, bv] 39)) := (Below.refl _ _).alloc (Nat.le_refl _) _
  have HBW := Lib.hid hbw
  have H := Lib.hid (h.on hbw)
  have HO := Lib.hid (ho.on hbw)
  have HL := Lib.hid hl
  obtain ⟨ab, cb, hbv, _⟩ := ho
  simp only at hbv
  subst hbv
  clear h hbw
  rcases hf with ⟨hk, hf⟩ | ⟨hk, hf⟩ | ⟨hk, hf⟩ | ⟨h0, h1, h2⟩
  · simp only at hk
    subst hk
    obtain ⟨m, hm⟩ : ∃ m : Nat, n = (m : Int) := ⟨n.toNat, by have := hf.1; simp only at this; omega⟩
    subst hm
    have HF := Lib.hid hf
    clear hf
    go_enter Tryd.func33, Tryd.ntmps33
    go_wp2_with fail
    refine (wu_ok B b v l m x _ H.out (by have := HL.out; omega) HF.out).mono ?_
    rintro e w1 ⟨rfl, hp⟩
    have HP := Lib.hid hp
    clear hp
    go_wp2
    go_ret
    exact ⟨rfl, HP.out.after HBW.out⟩
  · simp only at hk
    subst hk
    obtain ⟨m, hm⟩ : ∃ m : Nat, n = (m : Int) := ⟨n.toNat, by have := hf.1; simp only at this; omega⟩
    subst hm
    have HF := Lib.hid hf
    clear hf
    go_enter Tryd.func33, Tryd.ntmps33
    go_wp2_with fail
    refine (wi_ok B b v l m x _ H.out (by have := HL.out; omega) HF.out).mono ?_
    rintro e w1 ⟨rfl, hp⟩
    have HP := Lib.hid hp
    clear hp
    go_wp2
    go_ret
    exact ⟨rfl, HP.out.after HBW.out⟩
  · simp only at hk
    subst hk
    obtain ⟨m, hm⟩ : ∃ m : Nat, n = (m : Int) := ⟨n.toNat, by have := hf.1; simp only at this; omega⟩
    subst hm
    have HF := Lib.hid hf
    clear hf
    go_enter Tryd.func33, Tryd.ntmps33
    go_wp2_with fail
    refine (wb_ok B b v l m x _ H.out (by have := HL.out; omega) HF.out).mono ?_
    rintro e w1 ⟨rfl, hp⟩
    have HP := Lib.hid hp
    clear hp
    go_wp2
    go_ret
    exact ⟨rfl, HP.out.after HBW.out⟩
  · simp only at h0 h1 h2
    have he : opEnc ⟨kind, n, x, .slice ab bs.length cb, bs⟩ = bs := by unfold opEnc; rw [if_neg h0, if_neg h1, if_neg h2]
    rw [he]
    clear he
    have q0 : (kind == 0) = false := by simpa using h0
    have q1 : (kind == 1) = false := by simpa using h1
    have q2 : (kind == 2) = false := by simpa using h2
    clear h0 h1 h2
    go_enter Tryd.func33, Tryd.ntmps33
    go_wp2_with fail
    refine (wbytes_any B b v _ l bs _ H.out HO.out (Nat.le_trans HL.out (by decide))).mono ?_
    rintro e w1 ⟨rfl, hp⟩
    have HP := Lib.hid hp
    clear hp
    go_wp2
    go_ret
    exact ⟨rfl, HP.out.after HBW.out⟩

set_option maxRecDepth 100000 in
set_option maxHeartbeats 1000000 in
theorem put_bad (B b : Nat) (v : Value) (l : List UInt8) (o : OpV) (w : World) (h : WrAt w B b v l) (ho : BytesAt w o.bv o.b) (hf : ¬ opFits o) :
    Calls Tryd.prog 33 #[.pointer (some ⟨b, 0, none⟩), .agg #[.int .i64 o.kind, .int .i64 o.n, .int .i64 o.x, o.bv]] w (FaultIs w l.length 1) := by
  obtain ⟨kind, n, x, bv, bs⟩ := o
  have hbw : Below w.heap.size w (w.alloc (.cells #[.int .i64 kind, .int .i64 n, .int .i64 x, bv] 39)) := (Below.refl _ _).alloc (Nat.le_refl _) _
  have HBW := Lib.hid hbw
  have H := Lib.hid (h.on hbw)
  obtain ⟨ab, cb, hbv, _⟩ := ho
  simp only at hbv
  subst hbv
  clear h hbw
  unfold opFits at hf
  simp only at hf
  by_cases hk : kind = 0
  · subst hk
    have HF : Hid (¬ UFits n x) := Lib.hid (fun h => hf (.inl ⟨rfl, h⟩))
    clear hf
    go_enter Tryd.func33, Tryd.ntmps33
    go_wp2_with fail
    refine (wu_bad B b v l n x _ H.out HF.out).mono ?_
    rintro e w1 ⟨y, rfl, hy, hb⟩
    obtain ⟨_, _, rfl, _⟩ := id hy
    have HY := Lib.hid hy
    have HB := Lib.hid (HBW.out.trans (hb.mono HBW.out.size))
    clear hy hb
    go_wp2
    go_ret
    exact ⟨_, rfl, HY.out, HB.out⟩
  by_cases hk1 : kind = 1
  · subst hk1
    have HF : Hid (¬ SFits n x) := Lib.hid (fun h => hf (.inr (.inl ⟨rfl, h⟩)))
    clear hf hk
    go_enter Tryd.func33, Tryd.ntmps33
    go_wp2_with fail
    refine (wi_bad B b v l n x _ H.out HF.out).mono ?_
    rintro e w1 ⟨y, rfl, hy, hb⟩
    obtain ⟨_, _, rfl, _⟩ := id hy
    have HY := Lib.hid hy
    have HB := Lib.hid (HBW.out.trans (hb.mono HBW.out.size))
    clear hy hb
    go_wp2
    go_ret
    exact ⟨_, rfl, HY.out, HB.out⟩
  by_cases hk2 : kind = 2
  · subst hk2
    have HF : Hid (¬ UFits n x) := Lib.hid (fun h => hf (.inr (.inr (.inl ⟨rfl, h⟩))))
    clear hf hk hk1
    go_enter Tryd.func33, Tryd.ntmps33
    go_wp2_with fail
    refine (wb_bad B b v l n x _ H.out HF.out).mono ?_
    rintro e w1 ⟨y, rfl, hy, hb⟩
    obtain ⟨_, _, rfl, _⟩ := id hy
    have HY := Lib.hid hy
    have HB := Lib.hid (HBW.out.trans (hb.mono HBW.out.size))
    clear hy hb
    go_wp2
    go_ret
    exact ⟨_, rfl, HY.out, HB.out⟩
  · exact absurd (.inr (.inr (.inr ⟨hk, hk1, hk2⟩))) hf
end Go.Proofs.YtpdngcjgfngnjaaDoor
