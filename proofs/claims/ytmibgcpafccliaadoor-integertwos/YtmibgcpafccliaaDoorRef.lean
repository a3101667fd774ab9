/- The document's answers for layer 1 (swageref01): at, Norm, Add, MulSmall. -/
import Derived.Test.YtmibgcpafccliaaDoorRoom
namespace Go.Proofs.YtmibgcpafccliaaDoor
open Go.RowKit

set_option maxRecDepth 100000 in
set_option maxHeartbeats 400000 in
theorem rat_any (v : Value) (xs : List Nat) (i : Nat) (w : World) (h : Nums w v xs) (_hi : i ≤ 9223372036854775806) :
    Calls Tryd.prog 71 #[v, .int .i64 i] w fun e w' => e = .returned (.int .u32 (lm xs i : Nat)) ∧ w = w' := by
  obtain ⟨ho, a, cap, rfl, hl, hm, hc⟩ := h
  unfold maxLen at hm
  by_cases hlt : i < xs.length
  · obtain ⟨b, off, rfl, hx⟩ := hc (ne_nil hlt)
    have hx' := hx i hlt
    clear hx hc
    go_enter Tryd.func71, Tryd.ntmps71
    go_wp2
    go_ret
    exact ⟨rfl, rfl⟩
  · have HZ := hide (lm_over xs i (by omega))
    clear hc
    go_enter Tryd.func71, Tryd.ntmps71
    go_wp2
    go_ret
    exact ⟨by rw [HZ.out]; rfl, rfl⟩

theorem append_own_step {w5 w6 : World} {base : Nat} {v5 v6 : Value} {acc : List Nat} {x : Int} {n : Nat} (hx : x = (n : Int)) {o : Obj} (hO : Own w5 base v5 acc)
    (hown6 : w6.ownsRow base 32 1 v6 (acc.length + 1) (ints acc ++ [Value.int .u32 x])) (hgrow6 : (w5.alloc o).grownBy w6 v5.ownBlock) {w : World} (hB5 : Below w.heap.size w w5) (hb : w.heap.size ≤ base) :
    Own w6 base v6 (acc ++ [n]) ∧ Below w.heap.size w w6 := by
  constructor
  · subst hx
    have e1 : ints acc ++ [Value.int .u32 (n : Int)] = ints (acc ++ [n]) := by simp [ints]
    rw [e1] at hown6
    show World.ownsRow _ _ _ _ _ _ _; simpa using hown6
  · exact (hB5.alloc hB5.size o).grown hgrow6 (by have := hB5.size; simp; omega) (fun k hk => Nat.le_trans hb (hO.lt k hk).1)

set_option maxRecDepth 100000 in
set_option maxHeartbeats 1000000 in
theorem rnorm_any (v : Value) (xs : List Nat) (w : World) (h : Nums w v xs) (hlen : xs.length ≤ 1000000000) :
    Calls Tryd.prog 48 #[v] w fun e w' => ∃ v', e = .returned v' ∧ Own w' w.heap.size v' (lim (val xs)) ∧ Below w.heap.size w w' := by
  obtain ⟨i0, hi, hz0, hz1, hz2⟩ := info_parts Tryd.info32
  obtain ⟨ho, a, cap, rfl, hl, hm, hc⟩ := h
  have HC := hide hc
  have HO := hide ho
  clear hc
  unfold maxLen at hm
  go_enter Tryd.func48, Tryd.ntmps48
  go_wp2
  go_loop [3] (fun n => ∃ k : Nat, k ≤ xs.length ∧ n = .int .i64 k ∧ val (xs.take k) = val xs) (fun n => (intOf n).toNat)
  case atStart => exact ⟨xs.length, Nat.le_refl _, rfl, by rw [List.take_length]⟩
  case round =>
    obtain ⟨k, hk, rfl, hv⟩ := hrel
    have HV : Hid (val (xs.take k) = val xs) := hv
    clear hv
    have main : (k = 0 ∨ lm xs (k - 1) ≠ 0) ∨ ∃ j, k = j + 1 ∧ lm xs j = 0 := by
      cases k with
      | zero => exact .inl (.inl rfl)
      | succ j =>
        by_cases hz : lm xs j = 0
        · exact .inr ⟨j, rfl, hz⟩
        · exact .inl (.inr hz)
    rcases main with hend | ⟨j, rfl, hz⟩
    · have HE := hide (take_lim HO.out hk HV.out hend)
      have HEND := hide hend
      clear hend
      have htest : k ≤ 0 ∨ (∃ b off, a = some ⟨b, off, none⟩ ∧ 1 ≤ k ∧ w.cell? ⟨b, off + (k - 1), none⟩ = some (.int .u32 (lm xs (k - 1) : Nat)) ∧ (((lm xs (k - 1) : Nat) : Int) == 0) = false) := by
        rcases HEND.out with h0 | h0
        · exact .inl (by omega)
        · rcases Nat.eq_zero_or_pos k with h1 | h1
          · exact .inl (by omega)
          · obtain ⟨b, off, rfl, hx⟩ := HC.out (ne_nil (k := k - 1) (by omega))
            exact .inr ⟨b, off, rfl, h1, hx _ (by omega), by simp; exact h0⟩
      rcases htest with h1 | ⟨b, off, rfl, h1, hcx, htz⟩
      · have h2 : k = 0 := by omega
        subst h2
        clear h1
        go_wp2
        refine wp_loop_rounds 1 ?_
        rw [rounds_succ]
        go_wp2
        go_ret
        exact ⟨_, rfl, by rw [← HE.out]; exact World.ownsRow_nil _ _ _ _, Below.refl _ _⟩
      · go_wp2
        go_loopw [4, 5] (fun ov iv wr => ∃ (j : Nat) (acc : List Nat), j ≤ k ∧ iv = .int .i64 j ∧ Hid (acc = xs.take j) ∧ Own wr w.heap.size ov acc ∧ Below w.heap.size w wr) (fun _ iv _ => k - (intOf iv).toNat)
        case atStart => exact ⟨0, [], Nat.zero_le _, rfl, rfl, World.ownsRow_nil _ _ _ _, Below.refl _ _⟩
        case round =>
          obtain ⟨j, acc, hj, rfl, HACC, hO, hB⟩ := hrel
          by_cases hjk : j < k
          · obtain ⟨b', off', ha', hx⟩ := HC.out (ne_nil (k := j) (by omega))
            have hxj := (hB.cell (World.block_lt_of_cell? w _ (hx j (by omega)))).trans (hx j (by omega))
            have hlj : acc.length ≤ xs.length := by rw [HACC.out, List.length_take]; omega
            have HO5 := hide hO
            have HB5 := hide hB
            have HTK : Hid (xs.take (j + 1) = xs.take j ++ [lm xs j]) := by show _ = _; rw [List.take_succ_eq_append_getElem (by omega), lm_get _ _ (by omega)]
            clear hO hx
            first | subst ha' | (simp only [Option.some.injEq, Addr.mk.injEq, and_true] at ha'; obtain ⟨rfl, rfl⟩ := ha')
            go_wp2_with (at_builtin; refine wpList_append_own _ rfl _ _ 22 rfl w.heap.size 32 i0 (.int .u32 0) 1 4 Tryd.underlying22 hi hz0 hz1 hz2 rfl (by decide) _ _ _ rfl (World.ownsRow.alloc HO5.out _) ⟨_, 0, none⟩ 1 1 [.int .u32 (lm xs j : Nat)] rfl rfl ?_ ?_ ?_ ?_ ?_ ?_)
            · intro i u hi'
              match i, hi' with
              | 0, hi' => simp at hi'; subst hi'; simp [Addr.add]
            · intro u hu; simp at hu; subst hu; rfl
            · unfold maxLen; omega
            · omega
            · have := hB.size; simp; omega
            · intro v6 w6 hown6 hgrow6 _
              obtain ⟨hO6, hB6⟩ := append_own_step (n := lm xs j) rfl HO5.out hown6 hgrow6 HB5.out (Nat.le_refl _)
              clear hown6 hgrow6 hxj
              go_wp2
              go_roundw
              case rel => exact ⟨j + 1, _, by omega, by go_num, by show _ = _; rw [HTK.out, HACC.out], hO6, hB6⟩
              case measure => simp [intOf]; omega
          · have : j = k := by omega
            subst this
            go_wp2
            go_ret
            exact ⟨_, rfl, by rw [← HE.out, ← HACC.out]; exact hO, hB⟩
    · obtain ⟨b, off, rfl, hx⟩ := HC.out (ne_nil (k := j) (by omega))
      have hx' := hx j (by omega)
      have hz' : (((lm xs j : Nat) : Int) == 0) = true := by simpa using hz
      have HZ := hide hz
      clear hz hx
      go_wp2
      go_round
      case rel => exact ⟨j, by omega, by go_num, trim_step hk HV.out HZ.out⟩
      case measure => simp [intOf]
end Go.Proofs.YtmibgcpafccliaaDoor
