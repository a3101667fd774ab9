/- Plain numbers: a number's digits, and its groups of nine digits. Nothing of the program. -/
import Derived.Test.YtenmogmdijnlhaaDoorNum
namespace Go.Proofs.YtenmogmdijnlhaaDoor

def UU : Nat := 1000000000

/-- the k + 1 low digits, the high one first -/
def digs : Nat → Nat → List Nat
  | 0, g => [g % 10]
  | k + 1, g => (g / 10 ^ (k + 1) % 10) :: digs k g

def ndF : Nat → Nat → Nat
  | 0, _ => 0
  | f + 1, n => if n < 10 then 0 else ndF f (n / 10) + 1

/-- how many digits stand behind the first one -/
def nd (n : Nat) : Nat := ndF n n

/-- a number's digits -/
def dec (n : Nat) : List Nat := digs (nd n) n

theorem pow_succ10 (k : Nat) : 10 ^ (k + 1) = 10 * 10 ^ k := by rw [Nat.pow_succ, Nat.mul_comm]
theorem pow_pos10 (k : Nat) : 0 < 10 ^ k := Nat.pow_pos (by decide)

theorem ndF_spec : ∀ f n, n ≤ f → n < 10 ^ (ndF f n + 1) ∧ (ndF f n = 0 ∨ 10 ^ ndF f n ≤ n) := by
  intro f
  induction f with
  | zero => intro n h; have : n = 0 := by omega
            subst this; simp [ndF]
  | succ f ih =>
    intro n h
    unfold ndF
    by_cases h1 : n < 10
    · rw [if_pos h1]; simp; exact h1
    · rw [if_neg h1]
      have hd : n / 10 ≤ f := by omega
      obtain ⟨h2, h3⟩ := ih (n / 10) hd
      refine ⟨?_, .inr ?_⟩
      · rw [pow_succ10]; omega
      · rw [pow_succ10]
        rcases h3 with h3 | h3
        · rw [h3]; simp; omega
        · omega

theorem nd_spec (n : Nat) : n < 10 ^ (nd n + 1) ∧ (nd n = 0 ∨ 10 ^ nd n ≤ n) := ndF_spec n n (Nat.le_refl _)

theorem nd_unique {n k : Nat} (h1 : n < 10 ^ (k + 1)) (h2 : k = 0 ∨ 10 ^ k ≤ n) : nd n = k := by
  obtain ⟨a, b⟩ := nd_spec n
  have mono : ∀ i j : Nat, i ≤ j → 10 ^ i ≤ 10 ^ j := fun i j h => Nat.pow_le_pow_right (by decide) h
  by_cases hlt : nd n < k
  · have := mono (nd n + 1) k hlt
    rcases h2 with h2 | h2 <;> omega
  · by_cases hgt : k < nd n
    · have := mono (k + 1) (nd n) hgt
      rcases b with b | b <;> omega
    · omega

def grpF : Nat → Nat → List Nat
  | 0, n => [n]
  | f + 1, n => if n < UU then [n] else (n % UU) :: grpF f (n / UU)

/-- a number's groups, the low one first -/
def grp (n : Nat) : List Nat := grpF n n

/-- the groups behind the first one, of what is left -/
def grpR (n : Nat) : List Nat := if n = 0 then [] else grp n
/-- what is told of groups: the last one without noughts ahead, the others nine digits each -/
def told : List Nat → List Nat
  | [] => []
  | [t] => digs (nd t) t
  | g :: h :: gs => told (h :: gs) ++ digs 8 g

end Go.Proofs.YtenmogmdijnlhaaDoor
