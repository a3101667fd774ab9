/- The document's answers for layer 2 (swageref02): a number as it has it; norm, Neg, Abs, Sign. -/
import Derived.Test.YtapodkjmhenceaaIVar
import Derived.Test.YtapodkjmhenceaaDig
namespace Go.Proofs.Ytapodkjmhenceaa
open Go.RowKit

/-- a number as the document's answers have it: digits to the base 65536 -/
def RInt (w : World) (v : Value) (z : Int) : Prop :=
  ∃ (b : Bool) (n : Nat) (a : Option Addr) (cap : Nat), v = .agg #[.bool b, .slice a (D.lim n).length cap] ∧ Nums w (.slice a (D.lim n).length cap) (D.lim n) ∧ z = sg b n ∧ (n = 0 → b = false)
theorem RInt.below {w w' : World} {v : Value} {z : Int} (h : RInt w v z) (hb : Below w.heap.size w w') : RInt w' v z := by
  obtain ⟨b, n, a, cap, rfl, hn, rfl, h0⟩ := h
  exact ⟨b, n, a, cap, rfl, hn.below hb, rfl, h0⟩
theorem RInt.drew {w : World} {v : Value} {z : Int} (h : RInt w v z) : RInt w.drew v z := h
theorem RInt.keep {w w' : World} {v : Value} {z : Int} (h : RInt w v z) (k : Spares w w') : RInt w' v z := by
  obtain ⟨b, n, a, cap, rfl, hn, rfl, h0⟩ := h
  exact ⟨b, n, a, cap, rfl, k _ _ hn, rfl, h0⟩

theorem Try.infoRef : (Try.prog.info? 35).map (·.size) = some 2 := by kernel_rfl
theorem ret_ref {fn : Func} {R : Ending → World → Prop} {a : Act} {w : World} {p : Tmp} (h : fn.results = #[.cell p 35]) (g : Nat) (x y : Value) (t : TypeId) (fr : Nat × Nat)
    (hp : a.tmps.getD p undef = .pointer (some ⟨g, 0, none⟩)) (hg : w.heap[g]? = some (.cells #[x, y] t fr)) (hd : a.defers = []) (hR : R (.returned (.agg #[x, y])) w) : bodyPost Try.prog fn R .ret a w := by
  refine bodyPost_ret ?_ hd hR
  have hp' : a.tmps[p]?.getD undef = .pointer (some ⟨g, 0, none⟩) := by simpa using hp
  simp [results, h, hp', asAddr, run_loadVar_row w g t 35 #[x, y] fr _ hg Try.underlying35 rfl Try.infoRef]

theorem dok {xs : List Nat} (h : D.Ok xs) : Ok xs := fun x hx => Nat.lt_of_lt_of_le (h x hx) (by decide)
theorem dtrim_step {xs : List Nat} {k : Nat} (hk : k + 1 ≤ xs.length) (hv : D.val (xs.take (k + 1)) = D.val xs) (hz : lm xs k = 0) : D.val (xs.take k) = D.val xs := by
  rw [D.take_succ_val xs k (by omega), show D.lm xs k = lm xs k from rfl, hz] at hv; simpa using hv
theorem dtrim_end {w w' : World} {a : Option Addr} {cap k : Nat} {b : Bool} {xs : List Nat} (hN : Nums w (.slice a xs.length cap) xs) (hd : D.Ok xs) (hk : k ≤ xs.length) (hv : D.val (xs.take k) = D.val xs)
    (hz : k = 0 ∨ lm xs (k - 1) ≠ 0) (hb : Below w.heap.size w w') (s : Bool) (hs : s = (b && decide (0 < k))) : RInt w' (.agg #[.bool s, .slice a k cap]) (sg b (D.val xs)) := by
  have e := D.take_lim hd hk hv hz
  have hT := hN.take k hk
  rw [e] at hT
  have e0 : (D.lim (D.val xs)).length = k := by rw [← e, List.length_take]; omega
  subst hs
  refine ⟨_, D.val xs, a, cap, by rw [e0], by rw [e0]; exact hT.below hb, ?_, fun h => ?_⟩
  · by_cases h0 : k = 0
    · have : D.val xs = 0 := by rw [← hv, h0]; rfl
      rw [this, sg_zero, sg_zero]
    · rw [decide_eq_true (by omega), Bool.and_true]
  · rw [h] at e0
    have : k = 0 := by rw [← e0]; rfl
    subst this; simp

set_option maxRecDepth 100000 in
set_option maxHeartbeats 1000000 in
theorem rnorm2_any (s : Bool) (v : Value) (xs : List Nat) (w : World) (h : Nums w v xs) (hd : D.Ok xs) :
    Calls Try.prog 99 #[.bool s, v] w fun e w' => ∃ v', e = .returned v' ∧ RInt w' v' (sg s (D.val xs)) ∧ Below w.heap.size w w' := by
  have hN : Hid (Nums w v xs) := h
  have HD := hide hd
  rcases h.cases with ⟨rfl, a, cap, rfl, hcap⟩ | ⟨hpos, b, off, cap, rfl, hl, hm, hb, hc⟩
  · clear h hd
    unfold maxLen at hcap
    go_enter Try.func99, Try.ntmps99
    go_wp2
    refine wp_loop_rounds 1 ?_
    rw [rounds_succ]
    cases s <;> cases a
    all_goals
      go_wp2
      refine ret_ref rfl w.heap.size _ _ _ _ rfl (heap_alloc_new _ _) rfl ?_
      exact ⟨_, rfl, dtrim_end (k := 0) hN.out HD.out (Nat.zero_le _) rfl (.inl rfl) (below_alloc w _) _ (by simp), below_alloc _ _⟩
  · clear h hd
    have hc' : ∀ i, i < xs.length → (w.alloc (.cells #[.bool false, .slice none 0 0] 35)).cell? ⟨b, off + i, none⟩ = some (.int .u32 (lm xs i : Nat)) := fun i hi => by
      rw [(below_alloc w _).cell (World.block_lt_of_cell? w _ (hc i hi))]; exact hc i hi
    clear hc
    unfold maxLen at hm
    go_enter Try.func99, Try.ntmps99
    go_wp2
    go_loopw [5] (fun n wr => ∃ k : Nat, k ≤ xs.length ∧ n = .int .i64 k ∧ D.val (xs.take k) = D.val xs ∧ wr = w.alloc (.cells #[.bool false, .slice none 0 0] 35)) (fun n _ => (intOf n).toNat)
    case atStart => exact ⟨xs.length, Nat.le_refl _, rfl, by rw [List.take_length], rfl⟩
    case round =>
      obtain ⟨k, hk, rfl, hv, rfl⟩ := hrel
      have HV : Hid (D.val (xs.take k) = D.val xs) := hv
      clear hv
      cases k with
      | zero =>
        cases s with
        | true =>
          go_wp2
          refine ret_ref rfl w.heap.size _ _ _ _ rfl (heap_alloc_new _ _) rfl ?_
          exact ⟨_, rfl, dtrim_end hN.out HD.out (Nat.zero_le _) HV.out (.inl rfl) (below_alloc _ _) _ (by simp), below_alloc _ _⟩
        | false =>
          go_wp2
          refine ret_ref rfl w.heap.size _ _ _ _ rfl (heap_alloc_new _ _) rfl ?_
          exact ⟨_, rfl, dtrim_end hN.out HD.out (Nat.zero_le _) HV.out (.inl rfl) (below_alloc _ _) _ (by simp), below_alloc _ _⟩
      | succ k =>
        have hck := hc' k (by omega)
        by_cases hz : lm xs k = 0
        · have hz' : (((lm xs k : Nat) : Int) == 0) = true := by simpa using hz
          have HZ : Hid (lm xs k = 0) := hz
          clear hz
          go_wp2
          go_roundw
          case rel => exact ⟨k, by omega, by go_num, dtrim_step hk HV.out HZ.out, trivial⟩
          case measure => simp [intOf]
        · have hz' : (((lm xs k : Nat) : Int) == 0) = false := by simpa using hz
          cases s with
          | true =>
            go_wp2
            refine ret_ref rfl w.heap.size _ _ _ _ rfl (heap_alloc_new _ _) rfl ?_
            exact ⟨_, rfl, dtrim_end hN.out HD.out hk HV.out (.inr hz) (below_alloc _ _) _ (by simp), below_alloc _ _⟩
          | false =>
            go_wp2
            refine ret_ref rfl w.heap.size _ _ _ _ rfl (heap_alloc_new _ _) rfl ?_
            exact ⟨_, rfl, dtrim_end hN.out HD.out hk HV.out (.inr hz) (below_alloc _ _) _ (by simp), below_alloc _ _⟩
end Go.Proofs.Ytapodkjmhenceaa
