/- What an instruction asks may be. -/
import Derived.Test.YtcciojlbfaanmaaPgDep
import Derived.Test.YtcciojlbfaanmaaPgJoin1
namespace Go.Proofs.Ytcciojlbfaanmaa
open Go.RowKit

theorem ot_mem {l : List Int} {k : Nat} (h : k < l.length) : ot l k ∈ l := by rw [ot_lt h]; exact List.getElem_mem h
theorem asks_may {i : Ins} {regs : Int} (h : mayB i regs = true) : ∀ r ∈ asksL i, 0 ≤ r ∧ r < regs := by
  obtain ⟨_, _, m3, m4, m5, m6, _⟩ := may_parts h
  intro r hr
  unfold asksL at hr
  split at hr
  · simp only [List.mem_cons, List.not_mem_nil, or_false] at hr
    rcases hr with rfl | rfl
    · exact ⟨m3, m4⟩
    · exact ⟨m5, m6⟩
  · split at hr
    · simp only [List.mem_cons, List.not_mem_nil, or_false] at hr
      subst hr
      exact ⟨m3, m4⟩
    · cases hr
end Go.Proofs.Ytcciojlbfaanmaa
