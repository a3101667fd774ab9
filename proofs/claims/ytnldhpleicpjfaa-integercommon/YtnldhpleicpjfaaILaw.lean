/- What the laws of layer 2 share: live answers true; long tells whether one of the numbers is long. -/
import Derived.Test.YtnldhpleicpjfaaISum
namespace Go.Proofs.Ytnldhpleicpjfaa
open Go.RowKit

set_option maxRecDepth 100000 in
set_option maxHeartbeats 400000 in
theorem live_any (w : World) : Calls Try.prog 5 #[] w fun e w' => e = .returned (.bool true) ∧ Below w.heap.size w w' := by
  go_enter Try.func5, Try.ntmps5
  go_wp2_with fail
  refine (iof_any (-7) _ (by decide) (by decide)).mono ?_
  rintro e w1 ⟨v1, rfl, n1, hb1⟩
  have HB1 := hide hb1
  clear hb1
  go_wp2_with fail
  refine (iof_any 2 _ (by decide) (by decide)).mono ?_
  rintro e w2 ⟨v2, rfl, n2, hb2⟩
  have HN1 := hide (n1.below hb2)
  have HB2 := hide (HB1.out.trans (hb2.mono HB1.out.size))
  have HN2 := hide n2
  clear hb2 n1 n2
  go_wp2_with fail
  refine (iadd_any _ _ (-7) 2 _ HN1.out HN2.out (Nat.le_trans (lim_length_le (k := 1) (by decide)) (by decide)) (Nat.le_trans (lim_length_le (k := 1) (by decide)) (by decide))).mono ?_
  rintro e w3 ⟨v3, rfl, n3, hb3⟩
  have HB3 := hide (HB2.out.trans (hb3.mono HB2.out.size))
  have HN3 := hide n3
  clear hb3 n3
  go_wp2_with fail
  refine (ismall_any _ _ _ HN3.out).mono ?_
  rintro e w4 ⟨he, hb4⟩
  rw [smallOf_yes (by decide)] at he
  subst he
  have HB4 := hide (HB3.out.trans (hb4.mono HB3.out.size))
  clear hb4
  go_wp2
  go_ret
  exact ⟨rfl, HB4.out⟩

/-- a list of the numbers that a statement is handed: how many limbs each has -/
def Lens (w : World) (v : Value) (ls : List Nat) : Prop :=
  ∃ b off cap, v = .slice (some ⟨b, off, none⟩) ls.length cap ∧ ls.length ≤ cap ∧ cap ≤ maxLen ∧ ∀ i, i < ls.length → ∃ m c, w.cell? ⟨b, off + i * 2 + 1, none⟩ = some (.slice m (ls.getD i 0) c) ∧ ls.getD i 0 ≤ maxLen

set_option maxRecDepth 100000 in
set_option maxHeartbeats 400000 in
theorem long_any (v : Value) (ls : List Nat) (w : World) (h : Lens w v ls) :
    Calls Try.prog 6 #[v] w fun e w' => e = .returned (.bool (ls.any fun m => decide (60 < m))) ∧ Below w.heap.size w w' := by
  obtain ⟨b, off, cap, rfl, hl, hm, hc⟩ := h
  unfold maxLen at hm
  have HC := hide hc
  clear hc
  go_enter Try.func6, Try.ntmps6
  go_wp2
  go_loopw [3] (fun iv wr => ∃ k : Nat, k ≤ ls.length ∧ iv = .int .i64 k ∧ wr = w ∧ ∀ j, j < k → ¬ 60 < ls.getD j 0) (fun iv _ => ls.length - (intOf iv).toNat)
  case atStart => exact ⟨0, Nat.zero_le _, rfl, rfl, fun j hj => absurd hj (Nat.not_lt_zero _)⟩
  case round =>
    obtain ⟨k, hk, rfl, rfl, hj⟩ := hrel
    have HJ := hide hj
    clear hj
    by_cases hlt : k < ls.length
    · obtain ⟨m, c, hcell, hml⟩ := HC.out k hlt
      unfold maxLen at hml
      have HA : Hid (60 < ls.getD k 0 → ls.any (fun m => decide (60 < m)) = true) := fun h => by
        rw [List.any_eq_true]
        refine ⟨ls[k], List.getElem_mem hlt, ?_⟩
        rw [List.getD_eq_getElem?_getD, List.getElem?_eq_getElem hlt] at h
        simpa using h
      obtain ⟨q, hq0⟩ : ∃ q, ls.getD k 0 = q := ⟨_, rfl⟩
      have HQ0 := hide hq0
      rw [hq0] at hcell hml
      clear hq0
      by_cases hq : 60 < q
      · go_wp2
        go_ret
        exact ⟨by rw [HA.out (by rw [HQ0.out]; exact hq)]; rfl, Below.refl _ _⟩
      · have HQ := hide hq
        go_wp2
        go_roundw
        case rel => exact ⟨k + 1, by omega, by go_num, trivial, fun j hj => by
          by_cases e : j = k
          · rw [e, HQ0.out]; exact HQ.out
          · exact HJ.out j (by omega)⟩
        case measure => simp [intOf]; omega
    · have e : k = ls.length := by omega
      subst e
      have : ls.any (fun m => decide (60 < m)) = false := by
        rw [List.any_eq_false]
        intro x hx
        obtain ⟨i, hi, rfl⟩ := List.mem_iff_getElem.1 hx
        have := HJ.out i hi
        rw [List.getD_eq_getElem?_getD, List.getElem?_eq_getElem hi] at this
        simpa using this
      have HT := hide this
      clear this
      go_wp2
      go_ret
      exact ⟨by rw [HT.out]; rfl, Below.refl _ _⟩
end Go.Proofs.Ytnldhpleicpjfaa
