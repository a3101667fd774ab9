/- The document's word on whether an instruction may be. -/
import Derived.Test.YtheakienigmkhaaPgIn
namespace Go.Proofs.Ytheakienigmkhaa
open Go.RowKit

set_option maxRecDepth 100000 in
set_option maxHeartbeats 4000000 in
theorem rmay_any (i : Ins) (regs : Int) (w : World) :
    Calls Try.prog 51 #[.agg #[.int .i64 i.op, .int .i64 i.to, .int .i64 i.a, .int .i64 i.b, .int .i64 i.c], .int .i64 regs] w fun e w' => e = .returned (.bool (mayB i regs)) ∧ Below w.heap.size w w' := by
  obtain ⟨op, to, a, b, c⟩ := i
  by_cases k1 : op < 1
  · have key : mayB ⟨op, to, a, b, c⟩ regs = false := by
      have : constB op c = false := by unfold constB; rw [if_neg (by omega), if_neg (by omega), if_neg (by omega)]
      simp only [mayB, this, Bool.false_and]
    rw [key]; clear key
    dsimp only
    go_enter Try.func51, Try.ntmps51
    go_wp2
    go_ret
    exact ⟨by simp, below_alloc _ _⟩
  by_cases k2 : 8 < op
  · have key : mayB ⟨op, to, a, b, c⟩ regs = false := by
      have : constB op c = false := by unfold constB; rw [if_neg (by omega), if_neg (by omega), if_neg (by omega)]
      simp only [mayB, this, Bool.false_and]
    rw [key]; clear key
    dsimp only
    go_enter Try.func51, Try.ntmps51
    go_wp2
    go_ret
    exact ⟨by simp, below_alloc _ _⟩
  by_cases k3 : to < 0
  · have key : mayB ⟨op, to, a, b, c⟩ regs = false := by
      have : regB regs to = false := by unfold regB; simp; omega
      simp only [mayB, this, Bool.false_and, Bool.and_false]
    rw [key]; clear key
    dsimp only
    go_enter Try.func51, Try.ntmps51
    go_wp2
    go_ret
    exact ⟨by simp, below_alloc _ _⟩
  by_cases k4 : regs ≤ to
  · have key : mayB ⟨op, to, a, b, c⟩ regs = false := by
      have : regB regs to = false := by unfold regB; simp; omega
      simp only [mayB, this, Bool.false_and, Bool.and_false]
    rw [key]; clear key
    dsimp only
    go_enter Try.func51, Try.ntmps51
    go_wp2
    go_ret
    exact ⟨by simp, below_alloc _ _⟩
  by_cases k5 : a < 0
  · have key : mayB ⟨op, to, a, b, c⟩ regs = false := by
      have : regB regs a = false := by unfold regB; simp; omega
      simp only [mayB, this, Bool.false_and, Bool.and_false]
    rw [key]; clear key
    dsimp only
    go_enter Try.func51, Try.ntmps51
    go_wp2
    go_ret
    exact ⟨by simp, below_alloc _ _⟩
  by_cases k6 : regs ≤ a
  · have key : mayB ⟨op, to, a, b, c⟩ regs = false := by
      have : regB regs a = false := by unfold regB; simp; omega
      simp only [mayB, this, Bool.false_and, Bool.and_false]
    rw [key]; clear key
    dsimp only
    go_enter Try.func51, Try.ntmps51
    go_wp2
    go_ret
    exact ⟨by simp, below_alloc _ _⟩
  have t1 : regB regs to = true := by unfold regB; simp; omega
  have t2 : regB regs a = true := by unfold regB; simp; omega
  have key : mayB ⟨op, to, a, b, c⟩ regs = (constB op c && regB regs b && (decide (b = 0) || twoB op)) := by simp only [mayB, t1, t2, Bool.true_and]
  rw [key]; clear key t1 t2
  dsimp only
  by_cases o3 : op = 3 ∨ op = 4
  · have key : (constB op c && regB regs b && (decide (b = 0) || twoB op)) = (decide (0 ≤ b) && decide (b < regs) && decide (c = 0)) := by
      have e1 : constB op c = decide (c = 0) := by unfold constB; rw [if_pos (by omega)]
      have e2 : twoB op = true := by unfold twoB; simp; omega
      rw [e1, e2, Bool.or_true, Bool.and_true]
      unfold regB
      cases decide (c = 0) <;> cases decide (0 ≤ b) <;> cases decide (b < regs) <;> rfl
    rw [key]; clear key
    rcases o3 with rfl | rfl
    · by_cases b1 : 0 ≤ b
      · by_cases b2 : b < regs
        · by_cases c1 : c = 0
          · subst c1
            go_enter Try.func51, Try.ntmps51
            go_wp2
            go_ret
            exact ⟨by simp, below_alloc _ _⟩
          · go_enter Try.func51, Try.ntmps51
            go_wp2
            go_ret
            exact ⟨by simp [c1], below_alloc _ _⟩
        · have b3 : ¬ regs > b := by omega
          go_enter Try.func51, Try.ntmps51
          go_wp2
          go_ret
          exact ⟨by simp <;> omega, below_alloc _ _⟩
      · go_enter Try.func51, Try.ntmps51
        go_wp2
        go_ret
        exact ⟨by simp <;> omega, below_alloc _ _⟩
    · by_cases b1 : 0 ≤ b
      · by_cases b2 : b < regs
        · by_cases c1 : c = 0
          · subst c1
            go_enter Try.func51, Try.ntmps51
            go_wp2
            go_ret
            exact ⟨by simp, below_alloc _ _⟩
          · go_enter Try.func51, Try.ntmps51
            go_wp2
            go_ret
            exact ⟨by simp [c1], below_alloc _ _⟩
        · have b3 : ¬ regs > b := by omega
          go_enter Try.func51, Try.ntmps51
          go_wp2
          go_ret
          exact ⟨by simp <;> omega, below_alloc _ _⟩
      · go_enter Try.func51, Try.ntmps51
        go_wp2
        go_ret
        exact ⟨by simp <;> omega, below_alloc _ _⟩
  · have n3 : ¬ op = 3 := by omega
    have n4 : ¬ op = 4 := by omega
    have e2 : twoB op = false := by unfold twoB; simp; omega
    rw [e2, Bool.or_false]; clear e2 o3
    by_cases b0 : b = 0
    · subst b0
      have e3 : regB regs 0 = true := by unfold regB; simp; omega
      rw [e3, Bool.and_true, show decide ((0 : Int) = 0) = true from rfl, Bool.and_true]; clear e3
      rcases (by omega : op = 1 ∨ op = 2 ∨ op = 5 ∨ op = 6 ∨ op = 7 ∨ op = 8) with rfl | rfl | rfl | rfl | rfl | rfl
      · rw [show constB 1 c = decide (c = 0) from rfl]
        by_cases c1 : c = 0
        · subst c1
          go_enter Try.func51, Try.ntmps51
          go_wp2
          go_ret
          exact ⟨by simp, below_alloc _ _⟩
        · go_enter Try.func51, Try.ntmps51
          go_wp2
          go_ret
          exact ⟨by simp [c1], below_alloc _ _⟩
      · rw [show constB 2 c = decide (c = 0) from rfl]
        by_cases c1 : c = 0
        · subst c1
          go_enter Try.func51, Try.ntmps51
          go_wp2
          go_ret
          exact ⟨by simp, below_alloc _ _⟩
        · go_enter Try.func51, Try.ntmps51
          go_wp2
          go_ret
          exact ⟨by simp [c1], below_alloc _ _⟩
      · rw [show constB 5 c = (decide (-512 ≤ c) && decide (c ≤ 512) && decide (c ≠ 0)) from rfl]
        by_cases c1 : c = 0
        · subst c1
          go_enter Try.func51, Try.ntmps51
          go_wp2
          go_ret
          exact ⟨by simp, below_alloc _ _⟩
        · by_cases c2 : -512 ≤ c
          · by_cases c3 : c ≤ 512
            · go_enter Try.func51, Try.ntmps51
              go_wp2
              go_ret
              exact ⟨by simp <;> omega, below_alloc _ _⟩
            · go_enter Try.func51, Try.ntmps51
              go_wp2
              go_ret
              exact ⟨by simp <;> omega, below_alloc _ _⟩
          · go_enter Try.func51, Try.ntmps51
            go_wp2
            go_ret
            exact ⟨by simp <;> omega, below_alloc _ _⟩
      · rw [show constB 6 c = (decide (-512 ≤ c) && decide (c ≤ 512) && decide (c ≠ 0)) from rfl]
        by_cases c1 : c = 0
        · subst c1
          go_enter Try.func51, Try.ntmps51
          go_wp2
          go_ret
          exact ⟨by simp, below_alloc _ _⟩
        · by_cases c2 : -512 ≤ c
          · by_cases c3 : c ≤ 512
            · go_enter Try.func51, Try.ntmps51
              go_wp2
              go_ret
              exact ⟨by simp <;> omega, below_alloc _ _⟩
            · go_enter Try.func51, Try.ntmps51
              go_wp2
              go_ret
              exact ⟨by simp <;> omega, below_alloc _ _⟩
          · go_enter Try.func51, Try.ntmps51
            go_wp2
            go_ret
            exact ⟨by simp <;> omega, below_alloc _ _⟩
      · rw [show constB 7 c = (decide (1 ≤ c) && decide (c ≤ 64)) from rfl]
        by_cases c2 : 1 ≤ c
        · by_cases c3 : c ≤ 64
          · go_enter Try.func51, Try.ntmps51
            go_wp2
            go_ret
            exact ⟨by simp <;> omega, below_alloc _ _⟩
          · go_enter Try.func51, Try.ntmps51
            go_wp2
            go_ret
            exact ⟨by simp <;> omega, below_alloc _ _⟩
        · go_enter Try.func51, Try.ntmps51
          go_wp2
          go_ret
          exact ⟨by simp <;> omega, below_alloc _ _⟩
      · rw [show constB 8 c = (decide (1 ≤ c) && decide (c ≤ 64)) from rfl]
        by_cases c2 : 1 ≤ c
        · by_cases c3 : c ≤ 64
          · go_enter Try.func51, Try.ntmps51
            go_wp2
            go_ret
            exact ⟨by simp <;> omega, below_alloc _ _⟩
          · go_enter Try.func51, Try.ntmps51
            go_wp2
            go_ret
            exact ⟨by simp <;> omega, below_alloc _ _⟩
        · go_enter Try.func51, Try.ntmps51
          go_wp2
          go_ret
          exact ⟨by simp <;> omega, below_alloc _ _⟩
    · have key : (constB op c && regB regs b && decide (b = 0)) = false := by simp [b0]
      rw [key]; clear key
      have n3' : (op == 3) = false := by simp; omega
      have n4' : (op == 4) = false := by simp; omega
      go_enter Try.func51, Try.ntmps51
      go_wp2
      go_ret
      exact ⟨by simp, below_alloc _ _⟩
end Go.Proofs.Ytheakienigmkhaa
