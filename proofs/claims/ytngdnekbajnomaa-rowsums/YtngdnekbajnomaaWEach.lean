/- row.each: a new row of what a function answers for each place. -/
import Derived.Test.YtngdnekbajnomaaWRow
namespace Go.Proofs.Ytngdnekbajnomaa
open Go.RowKit

set_option maxRecDepth 100000 in
set_option maxHeartbeats 4000000 in
theorem each_gen (n kf : Nat) (cap : Array Value) (f : Nat → Int) (w : World) (hn : n ≤ 4000000000) (hen : ∀ args w, (callFunc kf args).run Try.prog w = .ok (.enter kf args) w) (Inv : Nat → World → Prop)
    (h0 : ∀ w', Below w.heap.size w w' → w.heap.size < w'.heap.size → Inv 0 w')
    (hput : ∀ i w' zs j x y, IRow w' w.heap.size zs → j < zs.length → Inv i w' → Inv i ((w'.setCell ⟨w.heap.size, j * 2, none⟩ x).setCell ⟨w.heap.size, j * 2 + 1, none⟩ y))
    (hc : ∀ (i : Nat) (w' : World), i < n → w.heap.size < w'.heap.size → Inv i w' → Calls Try.prog kf (#[.int .i64 i] ++ cap) w' fun e w'' => ∃ v, e = .returned v ∧ IntAt w'' v (f i) ∧ Inv (i + 1) w'' ∧ ∀ zs, IRow w' w.heap.size zs → IRow w'' w.heap.size zs) :
    Calls Try.prog 36 #[.int .i64 n, .func (.func kf) #[] cap] w fun e w' => e = .returned (.slice (some ⟨w.heap.size, 0, none⟩) n n) ∧ IRow w' w.heap.size ((List.range n).map f) ∧ Inv n w' := by
  have hmk := run_makeI n hn
  have HC := hide hc
  have HP := hide hput
  have HI := hide (h0 _ (below_alloc w (.cells (madeCells #[.bool false, .slice none 0 0] (n * 2)) 36)) (by simp))
  have HR := hide (IRow.new w n)
  clear hc hput h0
  go_enter Try.func36, Try.ntmps36
  go_wp2
  go_loopw [6, 11] (fun _ iv wr => ∃ k : Nat, k ≤ n ∧ iv = .int .i64 k ∧ IRow wr w.heap.size (rowTo f n k) ∧ Inv k wr) (fun _ iv _ => n - (intOf iv).toNat)
  case atStart => exact ⟨0, Nat.zero_le _, rfl, by rw [rowTo_zero]; exact HR.out, HI.out⟩
  case round =>
    obtain ⟨k, hk, rfl, hrow, hinv⟩ := hrel
    clear HI HR
    have HR := hide hrow
    have HI := hide hinv
    clear hrow hinv hmk
    by_cases hlt : k < n
    · go_wp2_with fail
      refine (HC.out k _ hlt HR.out.lt HI.out).mono ?_
      rintro e w1 ⟨v, rfl, hv, hi1, hrow⟩
      obtain ⟨s, m, l, c, rfl, hv⟩ : ∃ s m l c, v = .agg #[.bool s, .slice m l c] ∧ IntAt w1 (.agg #[.bool s, .slice m l c]) (f k) := by obtain ⟨b, j, a, c, rfl, hx⟩ := hv; exact ⟨b, a, _, c, rfl, b, j, a, c, rfl, hx⟩
      replace HR := hide (hrow _ HR.out)
      replace HI := hide hi1
      have IV := hide hv
      clear hrow hi1 hv
      obtain ⟨s0, m0, n0, c0, g1, g2, g3⟩ := HR.out.cells k (by rw [rowTo_len]; exact hlt)
      have f1 := HR.out.free (k * 2)
      have f2 := HR.out.free (k * 2 + 1)
      clear g3
      go_wp2
      go_roundw
      case rel => exact ⟨k + 1, by omega, by go_num, by rw [← rowTo_set]; exact HR.out.put (by rw [rowTo_len]; exact hlt) IV.out, HP.out _ _ _ _ _ _ HR.out (by rw [rowTo_len]; exact hlt) HI.out⟩
      case measure => simp [intOf]; omega
    · have e : k = n := by omega
      subst e
      go_wp2
      go_ret
      exact ⟨rfl, by rw [← rowTo_all]; exact HR.out, HI.out⟩
theorem each_any (n kf : Nat) (cap : Array Value) (f : Nat → Int) (w : World) (hn : n ≤ 4000000000) (hen : ∀ args w, (callFunc kf args).run Try.prog w = .ok (.enter kf args) w)
    (hc : ∀ (i : Nat) (w' : World), i < n → Below w.heap.size w w' → Calls Try.prog kf (#[.int .i64 i] ++ cap) w' fun e w'' => ∃ v, e = .returned v ∧ IntAt w'' v (f i) ∧ Below w'.heap.size w' w'') :
    Calls Try.prog 36 #[.int .i64 n, .func (.func kf) #[] cap] w fun e w' => e = .returned (.slice (some ⟨w.heap.size, 0, none⟩) n n) ∧ IRow w' w.heap.size ((List.range n).map f) ∧ Below w.heap.size w w' := by
  refine each_gen n kf cap f w hn hen (fun _ w' => Below w.heap.size w w') (fun w' h _ => h) (fun i w' zs j x y _ _ h => below_two h (Nat.le_refl _) x y) fun i w' hi _ h => ?_
  refine (hc i w' hi h).mono ?_
  rintro e w'' ⟨v, rfl, hv, hb⟩
  exact ⟨v, rfl, hv, h.trans (hb.mono h.size), fun zs hz => hz.step hb⟩
end Go.Proofs.Ytngdnekbajnomaa
