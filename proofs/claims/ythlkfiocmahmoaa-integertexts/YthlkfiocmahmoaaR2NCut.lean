/- The document's answers for layer 2 (swageref02): norm's answer lies over what is handed in. -/
import Derived.Test.YthlkfiocmahmoaaR2Law
import Derived.Test.YthlkfiocmahmoaaDivMod
namespace Go.Proofs.Ythlkfiocmahmoaa
open Go.RowKit

set_option maxRecDepth 100000 in
set_option maxHeartbeats 1000000 in
theorem rnorm2_cut (s : Bool) (v : Value) (xs : List Nat) (w : World) (h : Nums w v xs) (hd : D.Ok xs) :
    Calls Try.prog 47 #[.bool s, v] w fun e w' => ∃ b l k, e = .returned (.agg #[.bool b, l]) ∧ Cut v l k ∧ k ≤ xs.length ∧ xs.take k = D.lim (D.val xs) ∧ RInt w' (.agg #[.bool b, l]) (sg s (D.val xs)) ∧ Below w.heap.size w w' := by
  have hN : Hid (Nums w v xs) := h
  have HD := hide hd
  rcases h.cases with ⟨rfl, a, cap, rfl, hcap⟩ | ⟨hpos, b, off, cap, rfl, hl, hm, hb, hc⟩
  · clear h hd
    unfold maxLen at hcap
    go_enter Try.func47, Try.ntmps47
    go_wp2
    refine wp_loop_rounds 1 ?_
    rw [rounds_succ]
    cases s <;> cases a
    all_goals
      go_wp2
      refine ret_ref rfl w.heap.size _ _ _ _ rfl (heap_alloc_new _ _) rfl ?_
      exact ⟨_, _, 0, rfl, ⟨_, _, _, rfl, rfl⟩, (Nat.zero_le _), D.take_lim (k := 0) HD.out (Nat.zero_le _) rfl (.inl rfl), dtrim_end (k := 0) hN.out HD.out (Nat.zero_le _) rfl (.inl rfl) (below_alloc w _) _ (by simp), below_alloc _ _⟩
  · clear h hd
    have hc' : ∀ i, i < xs.length → (w.alloc (.cells #[.bool false, .slice none 0 0] 30)).cell? ⟨b, off + i, none⟩ = some (.int .u32 (lm xs i : Nat)) := fun i hi => by
      rw [(below_alloc w _).cell (World.block_lt_of_cell? w _ (hc i hi))]; exact hc i hi
    clear hc
    unfold maxLen at hm
    go_enter Try.func47, Try.ntmps47
    go_wp2
    go_loopw [5] (fun n wr => ∃ k : Nat, k ≤ xs.length ∧ n = .int .i64 k ∧ D.val (xs.take k) = D.val xs ∧ wr = w.alloc (.cells #[.bool false, .slice none 0 0] 30)) (fun n _ => (intOf n).toNat)
    case atStart => exact ⟨xs.length, Nat.le_refl _, rfl, by rw [List.take_length], rfl⟩
    case round =>
      obtain ⟨k, hk, rfl, hv, rfl⟩ := hrel
      have HV : Hid (D.val (xs.take k) = D.val xs) := hv
      clear hv
      cases k with
      | zero =>
        cases s with
        | true =>
          go_wp2
          refine ret_ref rfl w.heap.size _ _ _ _ rfl (heap_alloc_new _ _) rfl ?_
          exact ⟨_, _, 0, rfl, ⟨_, _, _, rfl, rfl⟩, (Nat.zero_le _), D.take_lim HD.out (Nat.zero_le _) HV.out (.inl rfl), dtrim_end hN.out HD.out (Nat.zero_le _) HV.out (.inl rfl) (below_alloc _ _) _ (by simp), below_alloc _ _⟩
        | false =>
          go_wp2
          refine ret_ref rfl w.heap.size _ _ _ _ rfl (heap_alloc_new _ _) rfl ?_
          exact ⟨_, _, 0, rfl, ⟨_, _, _, rfl, rfl⟩, (Nat.zero_le _), D.take_lim HD.out (Nat.zero_le _) HV.out (.inl rfl), dtrim_end hN.out HD.out (Nat.zero_le _) HV.out (.inl rfl) (below_alloc _ _) _ (by simp), below_alloc _ _⟩
      | succ k =>
        have hck := hc' k (by omega)
        by_cases hz : lm xs k = 0
        · have hz' : (((lm xs k : Nat) : Int) == 0) = true := by simpa using hz
          have HZ : Hid (lm xs k = 0) := hz
          clear hz
          go_wp2
          go_roundw
          case rel => exact ⟨k, by omega, by go_num, dtrim_step hk HV.out HZ.out, trivial⟩
          case measure => simp [intOf]
        · have hz' : (((lm xs k : Nat) : Int) == 0) = false := by simpa using hz
          cases s with
          | true =>
            go_wp2
            refine ret_ref rfl w.heap.size _ _ _ _ rfl (heap_alloc_new _ _) rfl ?_
            exact ⟨_, _, _, rfl, ⟨_, _, _, rfl, rfl⟩, hk, D.take_lim HD.out hk HV.out (.inr hz), dtrim_end hN.out HD.out hk HV.out (.inr hz) (below_alloc _ _) _ (by simp), below_alloc _ _⟩
          | false =>
            go_wp2
            refine ret_ref rfl w.heap.size _ _ _ _ rfl (heap_alloc_new _ _) rfl ?_
            exact ⟨_, _, _, rfl, ⟨_, _, _, rfl, rfl⟩, hk, D.take_lim HD.out hk HV.out (.inr hz), dtrim_end hN.out HD.out hk HV.out (.inr hz) (below_alloc _ _) _ (by simp), below_alloc _ _⟩

/-- what is owned stays so under norm -/
theorem Own.norm {w w' : World} {base k : Nat} {v l : Value} {xs : List Nat} (h : Own w base v xs) (hc : Cut v l k) (hk : k ≤ xs.length) (ht : xs.take k = D.lim (D.val xs)) (hb : Below w.heap.size w w') : Own w' base l (D.lim (D.val xs)) := by
  rw [← ht]; exact (h.cut k hk hc).below hb
end Go.Proofs.Ythlkfiocmahmoaa
