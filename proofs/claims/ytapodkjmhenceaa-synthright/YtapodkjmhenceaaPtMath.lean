/- Points: what norms are, and when two points are one. Nothing of the program. -/
import Derived.Test.YtapodkjmhenceaaPtNorm
namespace Go.Proofs.Ytapodkjmhenceaa
open Go.RowKit

/-- what is asked of a norm, told by the numbers alone -/
def fineB (a b : Int) : Bool :=
  decide (-16 ≤ nA a b ∧ nA a b ≤ 16 ∧ -16 ≤ nB a b ∧ nB a b ≤ 16 ∧ nA (nA a b) (nB a b) = nA a b ∧ nB (nA a b) (nB a b) = nB a b ∧
    (¬ (a = 0 ∧ b = 0) → Int.gcd (nA a b) (nB a b) = 1 ∧ (0 < nB a b ∨ (nB a b = 0 ∧ nA a b = 1)) ∧ a = dsg a b * nA a b ∧ b = dsg a b * nB a b ∧ dsg a b ≠ 0))
theorem fine_all : (List.range 33).all (fun i => (List.range 33).all fun j => fineB ((i : Int) - 16) ((j : Int) - 16)) = true := by decide +kernel
theorem fine {a b : Int} (ha : -16 ≤ a) (ha' : a ≤ 16) (hb : -16 ≤ b) (hb' : b ≤ 16) :
    -16 ≤ nA a b ∧ nA a b ≤ 16 ∧ -16 ≤ nB a b ∧ nB a b ≤ 16 ∧ nA (nA a b) (nB a b) = nA a b ∧ nB (nA a b) (nB a b) = nB a b ∧
    (¬ (a = 0 ∧ b = 0) → Int.gcd (nA a b) (nB a b) = 1 ∧ (0 < nB a b ∨ (nB a b = 0 ∧ nA a b = 1)) ∧ a = dsg a b * nA a b ∧ b = dsg a b * nB a b ∧ dsg a b ≠ 0) := by
  have h1 := List.all_eq_true.1 fine_all (a + 16).toNat (List.mem_range.2 (by omega))
  have h2 := List.all_eq_true.1 h1 (b + 16).toNat (List.mem_range.2 (by omega))
  have e1 : (((a + 16).toNat : Nat) : Int) - 16 = a := by omega
  have e2 : (((b + 16).toNat : Nat) : Int) - 16 = b := by omega
  rw [e1, e2] at h2
  exact of_decide_eq_true h2

def detI (a b c d : Int) : Int := a * d - c * b
def oneB (a b c d : Int) : Bool := decide (detI a b c d = 0) && (noB a b == noB c d)
theorem norm_none : nA 0 0 = 0 ∧ nB 0 0 = 0 := ⟨rfl, rfl⟩

theorem dvd_cop {k m n : Int} (h : Int.gcd k n = 1) (hd : k ∣ m * n) : k ∣ m :=
  Int.natAbs_dvd_natAbs.1 (Nat.Coprime.dvd_of_dvd_mul_right (k := k.natAbs) (n := n.natAbs) h (by rw [← Int.natAbs_mul]; exact Int.natAbs_dvd_natAbs.2 hd))
theorem cross {p q r s : Int} (h1 : Int.gcd p q = 1) (h2 : Int.gcd r s = 1) (s1 : 0 < q ∨ (q = 0 ∧ p = 1)) (s2 : 0 < s ∨ (s = 0 ∧ r = 1)) (e : p * s = r * q) : p = r ∧ q = s := by
  have d1 : q ∣ s := by
    have : q ∣ s * p := by rw [Int.mul_comm, e]; exact Int.dvd_mul_left _ _
    exact dvd_cop (by rw [Int.gcd_comm]; exact h1) this
  have d2 : s ∣ q := by
    have : s ∣ q * r := by rw [Int.mul_comm, ← e]; exact Int.dvd_mul_left _ _
    exact dvd_cop (by rw [Int.gcd_comm]; exact h2) this
  have hq : q = s := Int.dvd_antisymm (by omega) (by omega) d1 d2
  subst hq
  refine ⟨?_, rfl⟩
  rcases s1 with s1 | ⟨_, s1⟩
  · exact Int.eq_of_mul_eq_mul_right (by omega) e
  · rcases s2 with s2 | ⟨_, s2⟩
    · omega
    · omega

theorem one_norm {a b c d : Int} (ha : -16 ≤ a) (ha' : a ≤ 16) (hb : -16 ≤ b) (hb' : b ≤ 16) (hc : -16 ≤ c) (hc' : c ≤ 16) (hd : -16 ≤ d) (hd' : d ≤ 16) :
    (oneB a b c d = true ↔ nA c d = nA a b ∧ nB c d = nB a b) := by
  have f := (fine ha ha' hb hb').2.2.2.2.2.2
  have g := (fine hc hc' hd hd').2.2.2.2.2.2
  unfold oneB detI noB
  by_cases z1 : a = 0 ∧ b = 0
  · by_cases z2 : c = 0 ∧ d = 0
    · obtain ⟨rfl, rfl⟩ := z1
      obtain ⟨rfl, rfl⟩ := z2
      decide
    · obtain ⟨g1, g2, _⟩ := g z2
      rw [decide_eq_true z1, decide_eq_false z2]
      obtain ⟨rfl, rfl⟩ := z1
      simp only [norm_none.1, norm_none.2]
      simp
      intro e1 e2
      rw [e1, e2] at g2; omega
  · obtain ⟨f1, f2, f3, f4, f5⟩ := f z1
    by_cases z2 : c = 0 ∧ d = 0
    · rw [decide_eq_false z1, decide_eq_true z2]
      obtain ⟨rfl, rfl⟩ := z2
      simp only [norm_none.1, norm_none.2]
      simp
      intro e1 e2
      rw [← e1, ← e2] at f2; omega
    · obtain ⟨g1, g2, g3, g4, g5⟩ := g z2
      rw [decide_eq_false z1, decide_eq_false z2]
      generalize nA a b = p at *
      generalize nB a b = q at *
      generalize nA c d = r at *
      generalize nB c d = s at *
      generalize dsg a b = x at *
      generalize dsg c d = y at *
      have key : a * d - c * b = (x * y) * (p * s - r * q) := by rw [f3, f4, g3, g4]; grind
      rw [key]
      simp only [beq_self_eq_true, Bool.and_true, decide_eq_true_eq, Int.mul_eq_zero]
      constructor
      · intro h
        have e : p * s = r * q := by omega
        have := cross f1 g1 f2 g2 e
        exact ⟨this.1.symm, this.2.symm⟩
      · rintro ⟨rfl, rfl⟩
        right; omega

/-- the document's way -/
def oneR (a b c d : Int) : Bool := if noB a b || noB c d then noB a b && noB c d else decide (detI a b c d = 0)
theorem oneR_eq (a b c d : Int) : oneR a b c d = oneB a b c d := by
  unfold oneR oneB
  cases h1 : noB a b <;> cases h2 : noB c d
  · simp
  · simp
  · simp
  · obtain ⟨rfl, rfl⟩ := of_decide_eq_true h1
    obtain ⟨rfl, rfl⟩ := of_decide_eq_true h2
    simp [detI]
theorem det_small {a b c d : Int} (ha : -16 ≤ a) (ha' : a ≤ 16) (hb : -16 ≤ b) (hb' : b ≤ 16) (hc : -16 ≤ c) (hc' : c ≤ 16) (hd : -16 ≤ d) (hd' : d ≤ 16) :
    -512 ≤ detI a b c d ∧ detI a b c d ≤ 512 ∧ -256 ≤ a * d ∧ a * d ≤ 256 ∧ -256 ≤ c * b ∧ c * b ≤ 256 := by
  have h1 : (a * d).natAbs ≤ 16 * 16 := by rw [Int.natAbs_mul]; exact Nat.mul_le_mul (by omega) (by omega)
  have h2 : (c * b).natAbs ≤ 16 * 16 := by rw [Int.natAbs_mul]; exact Nat.mul_le_mul (by omega) (by omega)
  unfold detI
  omega
end Go.Proofs.Ytapodkjmhenceaa
