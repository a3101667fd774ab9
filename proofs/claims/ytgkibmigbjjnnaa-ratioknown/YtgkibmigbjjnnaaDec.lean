/- Plain numbers: a number's digits, and its groups of nine digits. Nothing of the program. -/
import Derived.Test.YtgkibmigbjjnnaaNum
namespace Go.Proofs.Ytgkibmigbjjnnaa

def UU : Nat := 1000000000

/-- the k + 1 low digits, the high one first -/
def digs : Nat → Nat → List Nat
  | 0, g => [g % 10]
  | k + 1, g => (g / 10 ^ (k + 1) % 10) :: digs k g

def ndF : Nat → Nat → Nat
  | 0, _ => 0
  | f + 1, n => if n < 10 then 0 else ndF f (n / 10) + 1

/-- how many digits stand behind the first one -/
def nd (n : Nat) : Nat := ndF n n

/-- a number's digits -/
def dec (n : Nat) : List Nat := digs (nd n) n

theorem pow_succ10 (k : Nat) : 10 ^ (k + 1) = 10 * 10 ^ k := by rw [Nat.pow_succ, Nat.mul_comm]
theorem pow_pos10 (k : Nat) : 0 < 10 ^ k := Nat.pow_pos (by decide)

theorem ndF_spec : ∀ f n, n ≤ f → n < 10 ^ (ndF f n + 1) ∧ (ndF f n = 0 ∨ 10 ^ ndF f n ≤ n) := by
  intro f
  induction f with
  | zero => intro n h; have : n = 0 := by omega
            subst this; simp [ndF]
  | succ f ih =>
    intro n h
    unfold ndF
    by_cases h1 : n < 10
    · rw [if_pos h1]; simp; exact h1
    · rw [if_neg h1]
      have hd : n / 10 ≤ f := by omega
      obtain ⟨h2, h3⟩ := ih (n / 10) hd
      refine ⟨?_, .inr ?_⟩
      · rw [pow_succ10]; omega
      · rw [pow_succ10]
        rcases h3 with h3 | h3
        · rw [h3]; simp; omega
        · omega

theorem nd_spec (n : Nat) : n < 10 ^ (nd n + 1) ∧ (nd n = 0 ∨ 10 ^ nd n ≤ n) := ndF_spec n n (Nat.le_refl _)

theorem nd_unique {n k : Nat} (h1 : n < 10 ^ (k + 1)) (h2 : k = 0 ∨ 10 ^ k ≤ n) : nd n = k := by
  obtain ⟨a, b⟩ := nd_spec n
  have mono : ∀ i j : Nat, i ≤ j → 10 ^ i ≤ 10 ^ j := fun i j h => Nat.pow_le_pow_right (by decide) h
  by_cases hlt : nd n < k
  · have := mono (nd n + 1) k hlt
    rcases h2 with h2 | h2 <;> omega
  · by_cases hgt : k < nd n
    · have := mono (k + 1) (nd n) hgt
      rcases b with b | b <;> omega
    · omega

theorem digs_mod (k m n : Nat) (h : k < m) : digs k (n % 10 ^ m) = digs k n := by
  induction k with
  | zero =>
    simp only [digs]
    obtain ⟨j, rfl⟩ : ∃ j, m = j + 1 := ⟨m - 1, by omega⟩
    rw [pow_succ10, Nat.mod_mul_right_mod]
  | succ k ih =>
    simp only [digs]
    rw [ih (by omega)]
    congr 1
    obtain ⟨j, rfl⟩ : ∃ j, m = (k + 1) + (j + 1) := ⟨m - (k + 1) - 1, by omega⟩
    rw [Nat.pow_add, Nat.mod_mul_right_div_self, pow_succ10 j, Nat.mod_mul_right_mod]

theorem digs_split (k n : Nat) : digs (k + 9) n = digs k (n / UU) ++ digs 8 (n % UU) := by
  have hU : UU = 10 ^ 9 := by decide
  induction k with
  | zero =>
    show digs 9 n = _
    rw [show digs 9 n = (n / 10 ^ 9 % 10) :: digs 8 n from rfl, hU, digs_mod 8 9 n (by decide)]
    rfl
  | succ k ih =>
    rw [show k + 1 + 9 = (k + 9) + 1 from by omega]
    rw [show digs (k + 9 + 1) n = (n / 10 ^ (k + 9 + 1) % 10) :: digs (k + 9) n from rfl, show digs (k + 1) (n / UU) = (n / UU / 10 ^ (k + 1) % 10) :: digs k (n / UU) from rfl]
    rw [ih, List.cons_append]
    congr 2
    rw [hU, Nat.div_div_eq_div_mul, ← Nat.pow_add]
    congr 2; omega

def grpF : Nat → Nat → List Nat
  | 0, n => [n]
  | f + 1, n => if n < UU then [n] else (n % UU) :: grpF f (n / UU)

/-- a number's groups, the low one first -/
def grp (n : Nat) : List Nat := grpF n n

theorem grpF_enough : ∀ f g n, n ≤ f → n ≤ g → grpF f n = grpF g n := by
  intro f
  induction f with
  | zero => intro g n h1 h2; have : n = 0 := by omega
            subst this; cases g <;> simp [grpF, UU]
  | succ f ih =>
    intro g n h1 h2
    by_cases h : n < UU
    · cases g <;> simp [grpF, h]
    · cases g with
      | zero => unfold UU at h; omega
      | succ g =>
        simp only [grpF, h, if_false]
        have hd : n / UU < n := Nat.div_lt_self (by unfold UU at h; omega) (by decide)
        rw [ih g (n / UU) (by omega) (by omega)]

theorem grp_low {n : Nat} (h : n < UU) : grp n = [n] := by
  unfold grp; cases n <;> simp [grpF]; intro h'; omega
theorem grp_high {n : Nat} (h : ¬ n < UU) : grp n = (n % UU) :: grp (n / UU) := by
  have hd : n / UU < n := Nat.div_lt_self (by unfold UU at h; omega) (by decide)
  unfold grp
  cases n with
  | zero => unfold UU at h; omega
  | succ m =>
    simp only [grpF, h, if_false]
    rw [grpF_enough m ((m + 1) / UU) ((m + 1) / UU) (by omega) (Nat.le_refl _)]

/-- the groups behind the first one, of what is left -/
def grpR (n : Nat) : List Nat := if n = 0 then [] else grp n
theorem grp_eq (n : Nat) : grp n = (n % UU) :: grpR (n / UU) := by
  unfold grpR
  by_cases h : n < UU
  · rw [grp_low h, Nat.mod_eq_of_lt h, Nat.div_eq_of_lt h]; rfl
  · rw [grp_high h, if_neg]
    have := Nat.div_pos (Nat.le_of_not_lt h) (show 0 < UU by decide)
    omega
theorem grpR_pos {n : Nat} (h : 0 < n) : grpR n = (n % UU) :: grpR (n / UU) := by
  rw [← grp_eq]; unfold grpR; rw [if_neg (by omega)]
theorem grpR_zero : grpR 0 = [] := rfl

theorem grp_lt (n : Nat) : ∀ x ∈ grp n, x < UU := by
  refine Nat.strongRecOn n (fun n ih => ?_)
  by_cases h : n < UU
  · rw [grp_low h]; intro x hx; simp at hx; omega
  · rw [grp_high h]; intro x hx
    rcases List.mem_cons.1 hx with rfl | hx
    · exact Nat.mod_lt _ (by decide)
    · exact ih (n / UU) (Nat.div_lt_self (by unfold UU at h; omega) (by decide)) x hx
theorem grp_ne (n : Nat) : grp n ≠ [] := by rw [grp_eq]; simp

/-- what is told of groups: the last one without noughts ahead, the others nine digits each -/
def told : List Nat → List Nat
  | [] => []
  | [t] => digs (nd t) t
  | g :: h :: gs => told (h :: gs) ++ digs 8 g

theorem nd_high {n : Nat} (h : ¬ n < UU) : nd n = nd (n / UU) + 9 := by
  have hU : UU = 10 ^ 9 := by decide
  obtain ⟨a, b⟩ := nd_spec (n / UU)
  refine nd_unique ?_ (.inr ?_)
  · rw [Nat.div_lt_iff_lt_mul (by decide), hU, ← Nat.pow_add] at a
    rw [show nd (n / UU) + 9 + 1 = nd (n / UU) + 1 + 9 from by omega]; exact a
  · rcases b with b | b
    · rw [b]; show 10 ^ 9 ≤ n; rw [← hU]; omega
    · rw [Nat.le_div_iff_mul_le (by decide), hU, ← Nat.pow_add] at b; exact b

theorem told_grp (n : Nat) : told (grp n) = dec n := by
  refine Nat.strongRecOn n (fun n ih => ?_)
  by_cases h : n < UU
  · rw [grp_low h]; rfl
  · have := ih (n / UU) (Nat.div_lt_self (by unfold UU at h; omega) (by decide))
    rw [grp_high h]
    have e : told (n % UU :: grp (n / UU)) = told (grp (n / UU)) ++ digs 8 (n % UU) := by
      cases hg : grp (n / UU) with
      | nil => exact absurd hg (grp_ne _)
      | cons a b => rfl
    rw [e, this]
    unfold dec
    rw [nd_high h, digs_split]

end Go.Proofs.Ytgkibmigbjjnnaa
