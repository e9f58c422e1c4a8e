/- yardref2.Wheel.List: the numbers of the timers, rising. -/
import Derived.Test.YtfefkkojdcipcaaDoorRef
import Derived.Test.YtfefkkojdcipcaaDoorRises
namespace Go.Proofs.YtfefkkojdcipcaaDoor
open Go.RowKit Go.Extern.Stop Go.Stop Go.Extern

/-- How far the list has come at the number i. -/
def RL (S : List Int) (i k : Nat) : Prop := k ≤ S.length ∧ (∀ j (h : j < S.length), j < k → S[j] < (i : Int)) ∧ ∀ j (h : j < S.length), k ≤ j → (i : Int) ≤ S[j]
theorem RL.hit {S : List Int} {i k : Nat} (hs : S.Pairwise (· < ·)) (h : RL S i k) (hm : (i : Int) ∈ S) : ∃ hk : k < S.length, S[k] = (i : Int) ∧ RL S (i + 1) (k + 1) := by
  obtain ⟨h1, h2, h3⟩ := h
  obtain ⟨j, hj, he⟩ := List.getElem_of_mem hm
  have hkj : k ≤ j := by
    rcases Nat.lt_or_ge j k with h | h
    · have := h2 j hj h
      omega
    · exact h
  have hk : k < S.length := by omega
  have hje : j = k := by
    rcases Nat.lt_or_ge k j with h | h
    · have h4 := List.pairwise_iff_getElem.1 hs k j hk hj h
      have h5 := h3 k hk (Nat.le_refl _)
      omega
    · omega
  subst hje
  refine ⟨hk, he, by omega, fun m hm' hlt => ?_, fun m hm' hge => ?_⟩
  · rcases Nat.lt_or_ge m j with h | h
    · have := h2 m hm' h
      omega
    · have : m = j := by omega
      subst this
      omega
  · have h4 := List.pairwise_iff_getElem.1 hs j m hk hm' (by omega)
    omega
theorem RL.miss {S : List Int} {i k : Nat} (h : RL S i k) (hm : (i : Int) ∉ S) : RL S (i + 1) k := by
  obtain ⟨h1, h2, h3⟩ := h
  refine ⟨h1, fun j hj hlt => by have := h2 j hj hlt; omega, fun j hj hge => ?_⟩
  have h4 := h3 j hj hge
  have h5 : S[j] ≠ (i : Int) := fun e => hm (e ▸ List.getElem_mem hj)
  omega

set_option maxRecDepth 100000 in
set_option maxHeartbeats 4000000 in
theorem rlist_any (B p : Nat) (now : Int) (v : Value) (ts : List (Int × Int)) (w : World) (h : RwAt w B p now v ts) (hg : Good ts) (hl : ts.length ≤ 1000) :
    Calls Tryd.prog 42 #[.pointer (some ⟨p, 0, none⟩)] w fun e w' => ∃ x, e = .returned x ∧ IntsOwn w' x (sortI (ts.map (·.1))) ∧ Below w.heap.size w w' := by
  have H := Lib.hid h
  have HS := Lib.hid (sortI_lt hg)
  have HIL : Hid ((sortI (ts.map (·.1))).length = ts.length) := Lib.hid (by rw [sortI_length, List.length_map])
  have HIM : Hid (∀ i : Int, i ∈ sortI (ts.map (·.1)) ↔ (atT ts i).isSome = true) := Lib.hid fun i => by
    rw [mem_sortI, Option.isSome_iff_exists]
    constructor
    · rintro ⟨t, ht, rfl⟩
      exact ⟨t.2, atT_mem hg.nodup t ht⟩
    · rintro ⟨a, ha⟩
      exact ⟨(i, a), atT_some ha, rfl⟩
  have HIR : Hid (∀ j (hj : j < (sortI (ts.map (·.1))).length), 0 ≤ (sortI (ts.map (·.1)))[j] ∧ (sortI (ts.map (·.1)))[j] ≤ 1000) := Lib.hid fun j hj => by
    obtain ⟨t, ht, he⟩ := mem_sortI.1 (List.getElem_mem hj)
    rw [← he]
    exact (hg.rng t ht).1
  have HL := Lib.hid hl
  clear hl hg
  generalize sortI (ts.map (·.1)) = S at *
  obtain ⟨ao, cap, rfl, _, _, _⟩ := h.form
  clear h
  go_enter Tryd.func42, Tryd.ntmps42
  go_wp2
  go_loopg [3, 4] 1001 (fun kk s3 s4 wr => ∃ i k : Nat, i ≤ 1001 ∧ kk = 1001 - i ∧ s4 = .int .i64 i ∧ Hid (RL S i k ∧ RInv w (S.take k) s3 wr))
  case atStart => exact ⟨0, 0, by omega, rfl, rfl, Lib.hid ⟨⟨Nat.zero_le _, fun j _ h => by omega, fun j hj _ => (HIR.out j hj).1⟩, Below.refl _ _, World.ownsRow_nil _ _ _ _⟩⟩
  case round =>
    obtain ⟨i, k, hi, rfl, rfl, hir⟩ := hrel
    obtain ⟨hrl, hbi, hown⟩ := hir.out
    have RLH := Lib.hid hrl
    have BI := Lib.hid hbi
    obtain ⟨xs, hxs⟩ : ∃ xs, xs = S.take k := ⟨_, rfl⟩
    rw [← hxs] at hown
    have HXS := Lib.hid hxs
    have HXL : Hid (xs.length = k) := Lib.hid (by rw [hxs, List.length_take]; have := hrl.1; omega)
    have OWN := Lib.hid hown
    obtain ⟨ax, cx, rfl⟩ := row_slice hown
    have c1 := (H.out.on hbi).c1
    clear hir hbi hown hxs hrl
    by_cases hlt : i ≤ 1000 ∧ k < S.length
    · obtain ⟨hi1, hk⟩ := hlt
      have hi1' : (i : Int) ≤ 1000 := by omega
      have hxk : (xs.length : Int) < (ts.length : Int) := by have := HXL.out; have := HIL.out; omega
      go_wp2_with fail
      refine (rat_any B p now _ ts (i : Int) wr (H.out.on BI.out) (by have := HL.out; omega)).mono ?_
      rintro e w3 ⟨rfl, rfl⟩
      by_cases hm : (i : Int) ∈ S
      · obtain ⟨hk', hsk, hrl⟩ := RLH.out.hit HS.out hm
        have hsome := (HIM.out i).1 hm
        rw [hsome]
        generalize (atT ts (i : Int)).getD 0 = a
        have BN : Hid (Below w.heap.size w (wr.alloc (.cells #[.int .i64 (i : Int)] 3))) := Lib.hid (BI.out.alloc BI.out.size _)
        obtain ⟨v6, w6, happ, ho6, hk6⟩ := app_ints (wr.alloc (.cells #[.int .i64 (i : Int)] 3)) w.heap.size _ _ xs [(i : Int)] (OWN.out.alloc _) (own_lit wr i) BN.out.size (by have := HXL.out; have := HIL.out; have := HL.out; simp; omega)
        have HN : Hid (RL S (i + 1) (k + 1) ∧ RInv w (S.take (k + 1)) v6 w6) := Lib.hid ⟨hrl, BN.out.trans (hk6.below BN.out.size (fun k hk => (OWN.out.lt k hk).1)), by rw [← List.take_append_getElem hk', hsk, ← HXS.out]; exact ho6⟩
        obtain ⟨av6, cv6, rfl⟩ := row_slice ho6
        clear ho6 hk6 hsome hrl c1
        generalize (xs ++ [(i : Int)]).length = nn at *
        go_wp2_with (at_builtin; refine Lib.wpList_append_run _ rfl _ _ _ _ rfl _ _ rfl rfl _ _ happ ?_)
        go_roundg (1001 - (i + 1))
        case measure => omega
        case rel => exact ⟨i + 1, k + 1, by omega, rfl, (by first | exact next_int i (by omega) | exact congrArg _ (by omega)), HN⟩
      · have hnone : (atT ts (i : Int)).isSome = false := by
          rw [← Bool.not_eq_true]
          exact fun h => hm ((HIM.out i).2 h)
        have HN : Hid (RL S (i + 1) k ∧ RInv w (S.take k) (.slice ax xs.length cx) wr) := Lib.hid ⟨RLH.out.miss hm, BI.out, by rw [← HXS.out]; exact OWN.out⟩
        rw [hnone]
        generalize (atT ts (i : Int)).getD 0 = a
        clear hnone c1
        go_wp2
        go_roundg (1001 - (i + 1))
        case measure => omega
        case rel => exact ⟨i + 1, k, by omega, rfl, (by first | exact next_int i (by omega) | exact congrArg _ (by omega)), HN⟩
    · have hke : k = S.length := by
        rcases Nat.lt_or_ge k S.length with h1 | h1
        · have h2 := RLH.out.2.2 k h1 (Nat.le_refl _)
          have h3 := (HIR.out k h1).2
          omega
        · have := RLH.out.1
          omega
      have HE : Hid (IntsOwn wr (.slice ax xs.length cx) S) := Lib.hid ⟨w.heap.size, by
        have h1 := HXS.out
        rw [hke, List.take_length] at h1
        rw [← h1]
        exact OWN.out⟩
      have hxe : ((xs.length : Int) < (ts.length : Int)) = False := by
        have h1 := HXL.out
        have h2 := HIL.out
        simp
        omega
      have hxe' : (ts.length : Int) ≤ (xs.length : Int) := by have h1 := HXL.out; have h2 := HIL.out; omega
      clear hxe
      by_cases hi1 : i ≤ 1000
      · have hi1' : (i : Int) ≤ 1000 := by omega
        go_wp2
        go_ret
        exact ⟨_, rfl, HE.out, BI.out⟩
      · have hi1' : (1000 : Int) < (i : Int) := by omega
        go_wp2
        go_ret
        exact ⟨_, rfl, HE.out, BI.out⟩
end Go.Proofs.YtfefkkojdcipcaaDoor
