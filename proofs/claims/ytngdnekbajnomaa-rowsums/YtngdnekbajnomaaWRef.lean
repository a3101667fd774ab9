/- swageref04's Cmp, Same, IsZero. -/
import Derived.Test.YtngdnekbajnomaaWCmp
import Derived.Test.YtngdnekbajnomaaWList
import Derived.Test.YtngdnekbajnomaaR2Cmp
namespace Go.Proofs.Ytngdnekbajnomaa
open Go.RowKit

theorem leadI_zero_iff : ∀ (zs : List Int), (leadI zs == 0) = true ↔ ∀ z ∈ zs, z = 0
  | [] => by simp [leadI]
  | z :: r => by
    have ih := leadI_zero_iff r
    by_cases h : z = 0
    · subst h
      rw [show leadI (0 :: r) = leadI r from if_pos rfl, ih]
      simp
    · rw [show leadI (z :: r) = sgnI z from if_neg h]
      have := sgnI_ne0 h
      rw [this]
      simp [h]



end Go.Proofs.Ytngdnekbajnomaa
