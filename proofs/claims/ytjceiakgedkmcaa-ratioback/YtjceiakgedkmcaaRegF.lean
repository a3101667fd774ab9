/- A statement that leaves its order open, by what is known when so many of its operations are done: each operation is looked at once, not in every order. Nothing of the program. -/
import Derived.Test.YtjceiakgedkmcaaCalm
namespace Go.Proofs.Ytjceiakgedkmcaa
open Go.RowKit

section
variable {P : Program} {md : Region.Mode} {ops : Array Oper} {Q : Exit → Act → World → Prop}

/-- how many are left -/
def left (listed : Array Bool) : Nat := listed.toList.count false
theorem left_less {listed : Array Bool} {i : Nat} (h : listed.getD i true = false) : left (listed.setIfInBounds i true) + 1 = left listed := by
  have hi : i < listed.size := by
    rcases Nat.lt_or_ge i listed.size with h1 | h1
    · exact h1
    · rw [Array.getD_eq_getD_getElem?, Array.getElem?_eq_none h1] at h; cases h
  have he : listed.toList[i]'(by simpa using hi) = false := by
    rw [Array.getD_eq_getD_getElem?, Array.getElem?_eq_getElem hi] at h
    simpa using h
  unfold left
  rw [Array.toList_setIfInBounds, List.count_set (by simpa using hi), he]
  have : 0 < listed.toList.count false := List.count_pos_iff.2 (by rw [← he]; exact List.getElem_mem _)
  show listed.toList.count false - 1 + 0 + 1 = listed.toList.count false
  omega
/-- THE LAW: what I says of the operations that are done holds on, whichever is done next -/
theorem wpAny_inv (I : Array Bool → Act → World → Prop)
    (step : ∀ listed a w i, I listed a w → i ∈ Region.ready md ops listed → wpOp P ops Q i (I (listed.setIfInBounds i true)) a w)
    (fin : ∀ listed a w, I listed a w → Region.ready md ops listed = [] → Q .normal a w) :
    ∀ (fuel : Nat) (listed : Array Bool) (a : Act) (w : World), left listed ≤ fuel → I listed a w → wpAny P md ops Q fuel listed a w
  | 0, listed, a, w, hl, hI => by
    have hr : Region.ready md ops listed = [] := by
      cases h : Region.ready md ops listed with
      | nil => rfl
      | cons i r =>
        have := left_less (mem_ready.1 (show i ∈ Region.ready md ops listed by rw [h]; simp)).1
        omega
    exact ⟨hr, fin listed a w hI hr⟩
  | fuel + 1, listed, a, w, hl, hI => ⟨fin listed a w hI, fun i hi => wpOp_mono (fun a' w' h => wpAny_inv I step fin fuel _ a' w' (by have := left_less (mem_ready.1 hi).1; omega) h) (step listed a w i hI hi)⟩
theorem wp_inv {id : Nat} {a : Act} {w : World} (I : Array Bool → Act → World → Prop) (hm : P.follows .mixedOrders = true) (h0 : I (Array.replicate ops.size false) a w.drew)
    (step : ∀ listed a w i, I listed a w → i ∈ Region.ready .any ops listed → wpOp P ops Q i (I (listed.setIfInBounds i true)) a w)
    (fin : ∀ listed a w, I listed a w → Region.ready .any ops listed = [] → Q .normal a w) : (Code.region id ops true).wp P Q a w :=
  wp_region_any hm (wpAny_inv I step fin _ _ _ _ (by unfold left; rw [Array.toList_replicate, List.count_replicate]; simp) h0)
end
end Go.Proofs.Ytjceiakgedkmcaa
