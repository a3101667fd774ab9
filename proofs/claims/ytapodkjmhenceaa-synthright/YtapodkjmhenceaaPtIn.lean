/- Points: whether one is in, is none (the program's and the document's). -/
import Derived.Test.YtapodkjmhenceaaBox
namespace Go.Proofs.Ytapodkjmhenceaa
open Go.RowKit

/-- a coordinate that may be -/
def sm (n : Int) : Bool := decide (-16 ≤ n ∧ n ≤ 16)
def inB (a b : Int) : Bool := sm a && sm b
def noB (a b : Int) : Bool := decide (a = 0 ∧ b = 0)
theorem sm_yes {n : Int} (h : sm n = true) : -16 ≤ n ∧ n ≤ 16 := of_decide_eq_true h
theorem in_yes {a b : Int} (h : inB a b = true) : (-16 ≤ a ∧ a ≤ 16) ∧ (-16 ≤ b ∧ b ≤ 16) := by
  unfold inB at h; rw [Bool.and_eq_true] at h; exact ⟨sm_yes h.1, sm_yes h.2⟩

set_option maxRecDepth 100000 in
theorem small_any (n : Int) (w : World) :
    Calls Try.prog 117 #[.int .i64 n] w fun e w' => w' = w ∧ e = .returned (.bool (sm n)) := by
  by_cases h1 : -16 ≤ n
  · by_cases h2 : n ≤ 16
    · rw [show sm n = true from decide_eq_true ⟨h1, h2⟩]
      go_enter Try.func117, Try.ntmps117
      go_wp2
      go_ret
      simp
    · rw [show sm n = false from decide_eq_false (fun h => h2 h.2)]
      go_enter Try.func117, Try.ntmps117
      go_wp2
      go_ret
      simp
  · rw [show sm n = false from decide_eq_false (fun h => h1 h.1)]
    go_enter Try.func117, Try.ntmps117
    go_wp2
    go_ret
    simp

set_option maxRecDepth 100000 in
theorem in_any (a b : Int) (w : World) :
    Calls Try.prog 69 #[.agg #[.int .i64 a, .int .i64 b]] w fun e w' => e = .returned (.bool (inB a b)) ∧ Below w.heap.size w w' := by
  unfold inB
  go_enter Try.func69, Try.ntmps69
  go_wp2_with fail
  refine (small_any a _).mono ?_
  rintro e w1 ⟨rfl, rfl⟩
  cases h1 : sm a with
  | false =>
    go_wp2
    go_ret
    exact ⟨by simp [h1], below_alloc _ _⟩
  | true =>
    go_wp2_with fail
    refine (small_any b _).mono ?_
    rintro e w1 ⟨rfl, rfl⟩
    go_wp2
    go_ret
    exact ⟨by simp [h1], below_alloc _ _⟩

set_option maxRecDepth 100000 in
theorem none_any (a b : Int) (w : World) :
    Calls Try.prog 86 #[.agg #[.int .i64 a, .int .i64 b]] w fun e w' => e = .returned (.bool (noB a b)) ∧ Below w.heap.size w w' := by
  by_cases h1 : a = 0
  · by_cases h2 : b = 0
    · rw [show noB a b = true from decide_eq_true ⟨h1, h2⟩]
      subst h1; subst h2
      go_enter Try.func86, Try.ntmps86
      go_wp2
      go_ret
      exact ⟨by simp, below_alloc _ _⟩
    · rw [show noB a b = false from decide_eq_false (fun h => h2 h.2)]
      subst h1
      go_enter Try.func86, Try.ntmps86
      go_wp2
      go_ret
      exact ⟨by simp, below_alloc _ _⟩
  · rw [show noB a b = false from decide_eq_false (fun h => h1 h.1)]
    go_enter Try.func86, Try.ntmps86
    go_wp2
    go_ret
    exact ⟨by simp, below_alloc _ _⟩

set_option maxRecDepth 100000 in
theorem rin_any (a b : Int) (w : World) :
    Calls Try.prog 21 #[.agg #[.int .i64 a, .int .i64 b]] w fun e w' => e = .returned (.bool (inB a b)) ∧ Below w.heap.size w w' := by
  have key : inB a b = (decide (-16 ≤ a) && decide (a ≤ 16) && decide (-16 ≤ b) && decide (b ≤ 16)) := by
    unfold inB sm; simp only [Bool.decide_and]; cases decide (-16 ≤ a) <;> cases decide (a ≤ 16) <;> rfl
  by_cases h1 : -16 ≤ a
  · by_cases h2 : a ≤ 16
    · by_cases h3 : -16 ≤ b
      · by_cases h4 : b ≤ 16
        · rw [key]
          simp only [h1, h2, h3, h4, decide_true, Bool.and_true]
          go_enter Try.func21, Try.ntmps21
          go_wp2
          go_ret
          exact ⟨by simp, below_alloc _ _⟩
        · rw [key]
          simp only [h4, decide_false, Bool.and_false]
          go_enter Try.func21, Try.ntmps21
          go_wp2
          go_ret
          exact ⟨by simp, below_alloc _ _⟩
      · rw [key]
        simp only [h3, decide_false, Bool.and_false, Bool.false_and]
        go_enter Try.func21, Try.ntmps21
        go_wp2
        go_ret
        exact ⟨by simp, below_alloc _ _⟩
    · rw [key]
      simp only [h2, decide_false, Bool.and_false, Bool.false_and]
      go_enter Try.func21, Try.ntmps21
      go_wp2
      go_ret
      exact ⟨by simp, below_alloc _ _⟩
  · rw [key]
    simp only [h1, decide_false, Bool.false_and]
    go_enter Try.func21, Try.ntmps21
    go_wp2
    go_ret
    exact ⟨by simp, below_alloc _ _⟩

set_option maxRecDepth 100000 in
theorem rnone_any (a b : Int) (w : World) :
    Calls Try.prog 81 #[.agg #[.int .i64 a, .int .i64 b]] w fun e w' => e = .returned (.bool (noB a b)) ∧ Below w.heap.size w w' := by
  by_cases h1 : a = 0
  · by_cases h2 : b = 0
    · rw [show noB a b = true from decide_eq_true ⟨h1, h2⟩]
      subst h1; subst h2
      go_enter Try.func81, Try.ntmps81
      go_wp2
      go_ret
      exact ⟨by simp, below_alloc _ _⟩
    · rw [show noB a b = false from decide_eq_false (fun h => h2 h.2)]
      subst h1
      go_enter Try.func81, Try.ntmps81
      go_wp2
      go_ret
      exact ⟨by simp [h2], below_alloc _ _⟩
  · rw [show noB a b = false from decide_eq_false (fun h => h1 h.1)]
    have h1' : (a == 0) = false := by simp [h1]
    go_enter Try.func81, Try.ntmps81
    go_wp2
    go_ret
    exact ⟨by simp, below_alloc _ _⟩
end Go.Proofs.Ytapodkjmhenceaa
