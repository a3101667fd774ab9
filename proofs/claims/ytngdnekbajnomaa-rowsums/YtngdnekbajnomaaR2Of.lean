/- swagelaw02.of: a number, as the program and as the document's answers have it; swageref02.Of. -/
import Derived.Test.YtngdnekbajnomaaR2Cmp
namespace Go.Proofs.Ytngdnekbajnomaa
open Go.RowKit

theorem ret_both {fn : Func} {R : Ending → World → Prop} {a : Act} {w : World} {p q : Tmp} (h : fn.results = #[.cell p 36, .cell q 39]) (g g' : Nat) (x y x' y' : Value)
    (hp : a.tmps.getD p undef = .pointer (some ⟨g, 0, none⟩)) (hq : a.tmps.getD q undef = .pointer (some ⟨g', 0, none⟩)) (hg : Box w g x y) (hg' : Box2 w g' 39 x' y') (hd : a.defers = []) (hR : R (.returned (.tuple #[.agg #[x, y], .agg #[x', y']])) w) : bodyPost Try.prog fn R .ret a w := by
  refine bodyPost_ret ?_ hd hR
  have hp' : a.tmps[p]?.getD undef = .pointer (some ⟨g, 0, none⟩) := by simpa using hp
  have hq' : a.tmps[q]?.getD undef = .pointer (some ⟨g', 0, none⟩) := by simpa using hq
  simp [results, h, hp', hq', asAddr, run_loadVar_row w g 36 36 #[x, y] (0, 0) _ hg Try.underlying36 rfl Try.infoInt, run_loadVar_row w g' 39 39 #[x', y'] (0, 0) _ hg' Try.underlying39 rfl Try.infoRef]

end Go.Proofs.Ytngdnekbajnomaa
