/- Whether an instruction may be; whether there are as many of each as may be (the program's and the document's). -/
import Derived.Test.YtclopelniopjkaaPgIn
namespace Go.Proofs.Ytclopelniopjkaa
open Go.RowKit

theorem ints3 (w : World) (e : TypeId) (x y z : Int) {n : Nat} (hn : n = w.heap.size) : IntsAt (w.alloc (.cells #[.int .i64 x, .int .i64 y, .int .i64 z] e)) (.slice (some ⟨n, 0, none⟩) 3 3) [x, y, z] := by
  subst hn
  refine ⟨_, 3, rfl, Nat.le_refl _, by simp [maxLen], fun _ => ⟨_, _, rfl, fun i hi => ?_⟩⟩
  have hh := heap_alloc_new w (.cells #[.int .i64 x, .int .i64 y, .int .i64 z] e)
  generalize w.alloc (.cells #[.int .i64 x, .int .i64 y, .int .i64 z] e) = W at hh ⊢
  generalize w.heap.size = B at hh ⊢
  match i, hi with
  | 0, _ => simp [World.cell?, hh, ot]
  | 1, _ => simp [World.cell?, hh, ot]
  | 2, _ => simp [World.cell?, hh, ot]

set_option maxRecDepth 100000 in
set_option maxHeartbeats 1000000 in
theorem mayBe_any (i : Ins) (regs : Int) (w : World) :
    Calls Try.prog 47 #[.agg #[.int .i64 i.op, .int .i64 i.to, .int .i64 i.a, .int .i64 i.b, .int .i64 i.c], .int .i64 regs] w fun e w' => e = .returned (.bool (mayB i regs)) ∧ Below w.heap.size w w' := by
  obtain ⟨op, to, a, b, c⟩ := i
  unfold mayB
  dsimp only
  go_enter Try.func47, Try.ntmps47
  go_wp2_with fail
  refine (constant_any op c _).mono ?_
  rintro e w1 ⟨rfl, rfl⟩
  cases h1 : constB op c with
  | false =>
    go_wp2
    go_ret
    exact ⟨by simp [h1], below_alloc _ _⟩
  | true =>
    go_wp2_with fail
    refine (registers_any regs _ [to, a, b] _ (ints3 _ _ _ _ _ (by rw [World.size_alloc]))).mono ?_
    rintro e w1 ⟨rfl, rfl⟩
    have e3 : [to, a, b].all (regB regs) = (regB regs to && regB regs a && regB regs b) := by simp [Bool.and_assoc]
    rw [e3]
    clear e3
    cases h2 : (regB regs to && regB regs a && regB regs b) with
    | false =>
      go_wp2
      go_ret
      exact ⟨by simp [h1, h2], (below_alloc _ _).trans ((below_alloc _ _).mono (by rw [World.size_alloc]; omega))⟩
    | true =>
      by_cases hb : b = 0
      · subst hb
        go_wp2
        go_ret
        exact ⟨by simp, (below_alloc _ _).trans ((below_alloc _ _).mono (by rw [World.size_alloc]; omega))⟩
      · go_wp2_with fail
        refine (two_any op _).mono ?_
        rintro e w1 ⟨rfl, rfl⟩
        go_wp2
        go_ret
        exact ⟨by simp [h1, h2, hb], (below_alloc _ _).trans ((below_alloc _ _).mono (by rw [World.size_alloc]; omega))⟩

set_option maxRecDepth 100000 in
theorem counted_any (p : Pg) (ca oa : Option Addr) (cc oc : Nat) (w : World) :
    Calls Try.prog 45 #[.agg #[.int .i64 p.ins, .int .i64 p.regs, .slice ca p.code.length cc, .slice oa p.outs.length oc]] w fun e w' => e = .returned (.bool (numB p)) ∧ Below w.heap.size w w' := by
  obtain ⟨ins, regs, code, outs⟩ := p
  unfold numB
  dsimp only
  generalize code.length = lc
  generalize outs.length = lo
  by_cases h1 : 1 ≤ ins
  · by_cases h2 : ins ≤ regs
    · by_cases h3 : regs ≤ 128
      · by_cases h4 : lc ≤ 16384
        · have h4' : (lc : Int) ≤ 16384 := by omega
          by_cases h5 : 1 ≤ lo
          · have h5' : (1 : Int) ≤ lo := by omega
            by_cases h6 : lo ≤ 128
            · have h6' : (lo : Int) ≤ 128 := by omega
              go_enter Try.func45, Try.ntmps45
              go_wp2
              go_ret
              exact ⟨by simp [h1, h2, h3, h4, h5, h6], below_alloc _ _⟩
            · have h6' : ¬ (lo : Int) ≤ 128 := by omega
              go_enter Try.func45, Try.ntmps45
              go_wp2
              go_ret
              exact ⟨by simp <;> omega, below_alloc _ _⟩
          · have h5' : ¬ (1 : Int) ≤ lo := by omega
            go_enter Try.func45, Try.ntmps45
            go_wp2
            go_ret
            exact ⟨by simp <;> omega, below_alloc _ _⟩
        · have h4' : ¬ (lc : Int) ≤ 16384 := by omega
          go_enter Try.func45, Try.ntmps45
          go_wp2
          go_ret
          exact ⟨by simp <;> omega, below_alloc _ _⟩
      · go_enter Try.func45, Try.ntmps45
        go_wp2
        go_ret
        exact ⟨by simp <;> omega, below_alloc _ _⟩
    · go_enter Try.func45, Try.ntmps45
      go_wp2
      go_ret
      exact ⟨by simp <;> omega, below_alloc _ _⟩
  · go_enter Try.func45, Try.ntmps45
    go_wp2
    go_ret
    exact ⟨by simp <;> omega, below_alloc _ _⟩

end Go.Proofs.Ytclopelniopjkaa
