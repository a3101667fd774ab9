/- Three operations that may come up. -/
import Derived.Test.YtheakienigmkhaaCalm
namespace Go.Proofs.Ytheakienigmkhaa
open Go.RowKit

section
variable {P : Program} {md : Region.Mode} {ops : Array Oper} {Q : Exit → Act → World → Prop} {F : World → Prop} {pend : Nat → Bool}

/-- three may come up -/
theorem Calm.three {i j m : Nat} {o o' o'' : Oper} {fuel : Nat} {listed : Array Bool} {a : Act} {w : World} (hr : Region.ready md ops listed = [i, j, m]) (ho : ops[i]? = some o) (ho' : ops[j]? = some o') (ho'' : ops[m]? = some o'') (hg : Region.wanted o (yielded ops a.tmps) = true) (hg' : Region.wanted o' (yielded ops a.tmps) = true) (hg'' : Region.wanted o'' (yielded ops a.tmps) = true)
    {l l' l'' : Array Bool} (hl : listed.setIfInBounds i true = l) (hl' : listed.setIfInBounds j true = l') (hl'' : listed.setIfInBounds m true = l'')
    (h : ∀ K : Act → World → Prop, (∀ a' w', (pend i = true → F w') → Calm P md ops Q F pend fuel l a' w' → K a' w') → Oper.wp P o a w K Q)
    (h' : ∀ K : Act → World → Prop, (∀ a' w', (pend j = true → F w') → Calm P md ops Q F pend fuel l' a' w' → K a' w') → Oper.wp P o' a w K Q)
    (h'' : ∀ K : Act → World → Prop, (∀ a' w', (pend m = true → F w') → Calm P md ops Q F pend fuel l'' a' w' → K a' w') → Oper.wp P o'' a w K Q) : Calm P md ops Q F pend (fuel + 1) listed a w := by
  subst hl; subst hl'; subst hl''
  refine ⟨fun e => (by rw [hr] at e; cases e), fun k hk => ?_⟩
  rw [hr] at hk
  rcases List.mem_cons.1 hk with rfl | hk
  · unfold wpOp
    simp only [ho]
    rw [if_pos hg]
    exact .inl (h _ fun _ _ h1 h2 => ⟨h1, h2⟩)
  · rcases List.mem_cons.1 hk with rfl | hk
    · unfold wpOp
      simp only [ho']
      rw [if_pos hg']
      exact .inl (h' _ fun _ _ h1 h2 => ⟨h1, h2⟩)
    · rw [List.mem_singleton] at hk
      subst hk
      unfold wpOp
      simp only [ho'']
      rw [if_pos hg'']
      exact .inl (h'' _ fun _ _ h1 h2 => ⟨h1, h2⟩)
end
end Go.Proofs.Ytheakienigmkhaa
