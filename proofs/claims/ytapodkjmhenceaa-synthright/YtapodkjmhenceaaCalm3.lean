/- Three operations that may come up; four variables that are made; what a division hands back. -/
import Derived.Test.YtapodkjmhenceaaIVar
import Derived.Test.YtapodkjmhenceaaCalm
namespace Go.Proofs.Ytapodkjmhenceaa
open Go.RowKit

section
variable {P : Program} {md : Region.Mode} {ops : Array Oper} {Q : Exit → Act → World → Prop} {F : World → Prop} {pend : Nat → Bool}

/-- three may come up -/
theorem Calm.three {i j m : Nat} {o o' o'' : Oper} {fuel : Nat} {listed : Array Bool} {a : Act} {w : World} (hr : Region.ready md ops listed = [i, j, m]) (ho : ops[i]? = some o) (ho' : ops[j]? = some o') (ho'' : ops[m]? = some o'') (hg : Region.wanted o (yielded ops a.tmps) = true) (hg' : Region.wanted o' (yielded ops a.tmps) = true) (hg'' : Region.wanted o'' (yielded ops a.tmps) = true)
    {l l' l'' : Array Bool} (hl : listed.setIfInBounds i true = l) (hl' : listed.setIfInBounds j true = l') (hl'' : listed.setIfInBounds m true = l'')
    (h : ∀ K : Act → World → Prop, (∀ a' w', (pend i = true → F w') → Calm P md ops Q F pend fuel l a' w' → K a' w') → Oper.wp P o a w K Q)
    (h' : ∀ K : Act → World → Prop, (∀ a' w', (pend j = true → F w') → Calm P md ops Q F pend fuel l' a' w' → K a' w') → Oper.wp P o' a w K Q)
    (h'' : ∀ K : Act → World → Prop, (∀ a' w', (pend m = true → F w') → Calm P md ops Q F pend fuel l'' a' w' → K a' w') → Oper.wp P o'' a w K Q) : Calm P md ops Q F pend (fuel + 1) listed a w := by
  subst hl; subst hl'; subst hl''
  refine ⟨fun e => (by rw [hr] at e; cases e), fun k hk => ?_⟩
  rw [hr] at hk
  rcases List.mem_cons.1 hk with rfl | hk
  · unfold wpOp
    simp only [ho]
    rw [if_pos hg]
    exact .inl (h _ fun _ _ h1 h2 => ⟨h1, h2⟩)
  · rcases List.mem_cons.1 hk with rfl | hk
    · unfold wpOp
      simp only [ho']
      rw [if_pos hg']
      exact .inl (h' _ fun _ _ h1 h2 => ⟨h1, h2⟩)
    · rw [List.mem_singleton] at hk
      subst hk
      unfold wpOp
      simp only [ho'']
      rw [if_pos hg'']
      exact .inl (h'' _ fun _ _ h1 h2 => ⟨h1, h2⟩)
end

/-- one struct of two cells and a word are handed back -/
theorem ret_one {fn : Func} {R : Ending → World → Prop} {a : Act} {w : World} {p u : Tmp} (h : fn.results = #[.cell p 31, .tmp u]) (g : Nat) (x y : Value)
    (hp : a.tmps.getD p undef = .pointer (some ⟨g, 0, none⟩)) (hg : Box w g x y) (hd : a.defers = []) (hR : R (.returned (.tuple #[.agg #[x, y], a.tmps.getD u undef])) w) : bodyPost Try.prog fn R .ret a w := by
  refine bodyPost_ret ?_ hd hR
  have hp' : a.tmps[p]?.getD undef = .pointer (some ⟨g, 0, none⟩) := by simpa using hp
  simp [results, h, hp', asAddr, run_loadVar_row w g 31 31 #[x, y] (0, 0) _ hg Try.underlying31 rfl Try.infoInt]

/-- both cells of a block written anew -/
theorem Box.put {W : World} {B : Nat} {x y : Value} (h : Box W B x y) (x' y' : Value) : Box ((W.setCell ⟨B, 0, none⟩ x').setCell ⟨B, 1, none⟩ y') B x' y' := (h.set0 _).set1 _
theorem Box.other {W : World} {B C : Nat} {x y : Value} (h : Box W B x y) (hne : C ≠ B) (x' y' : Value) : Box ((W.setCell ⟨C, 0, none⟩ x').setCell ⟨C, 1, none⟩ y') B x y := (h.set_ne hne _).set_ne hne _
theorem below_put {n : Nat} {w W : World} (h : Below n w W) {C : Nat} (hC : n ≤ C) (x' y' : Value) : Below n w ((W.setCell ⟨C, 0, none⟩ x').setCell ⟨C, 1, none⟩ y') := (h.setCell (p := ⟨C, 0, none⟩) hC _).setCell (p := ⟨C, 1, none⟩) hC _
/-- a struct that says a number: its cells -/
theorem IntAt.cells {w : World} {v : Value} {z : Int} (h : IntAt w v z) : ∃ s m n c, v = .agg #[.bool s, .slice m n c] ∧ IntAt w (.agg #[.bool s, .slice m n c]) z := by
  have h' := h
  obtain ⟨s, n, m, c, rfl, _, _, _⟩ := h'
  exact ⟨s, m, _, c, rfl, h⟩

end Go.Proofs.Ytapodkjmhenceaa
