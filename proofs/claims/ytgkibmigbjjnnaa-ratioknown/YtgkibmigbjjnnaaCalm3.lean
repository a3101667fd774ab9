/- Three operations that may come up; four variables that are made; what a division hands back. -/
import Derived.Test.YtgkibmigbjjnnaaIVar
import Derived.Test.YtgkibmigbjjnnaaCalm
namespace Go.Proofs.Ytgkibmigbjjnnaa
open Go.RowKit

section
variable {P : Program} {md : Region.Mode} {ops : Array Oper} {Q : Exit → Act → World → Prop} {F : World → Prop} {pend : Nat → Bool}

/-- three may come up -/
theorem Calm.three {i j m : Nat} {o o' o'' : Oper} {fuel : Nat} {listed : Array Bool} {a : Act} {w : World} (hr : Region.ready md ops listed = [i, j, m]) (ho : ops[i]? = some o) (ho' : ops[j]? = some o') (ho'' : ops[m]? = some o'') (hg : Region.wanted o (yielded ops a.tmps) = true) (hg' : Region.wanted o' (yielded ops a.tmps) = true) (hg'' : Region.wanted o'' (yielded ops a.tmps) = true)
    {l l' l'' : Array Bool} (hl : listed.setIfInBounds i true = l) (hl' : listed.setIfInBounds j true = l') (hl'' : listed.setIfInBounds m true = l'')
    (h : ∀ K : Act → World → Prop, (∀ a' w', (pend i = true → F w') → Calm P md ops Q F pend fuel l a' w' → K a' w') → Oper.wp P o a w K Q)
    (h' : ∀ K : Act → World → Prop, (∀ a' w', (pend j = true → F w') → Calm P md ops Q F pend fuel l' a' w' → K a' w') → Oper.wp P o' a w K Q)
    (h'' : ∀ K : Act → World → Prop, (∀ a' w', (pend m = true → F w') → Calm P md ops Q F pend fuel l'' a' w' → K a' w') → Oper.wp P o'' a w K Q) : Calm P md ops Q F pend (fuel + 1) listed a w := by
  subst hl; subst hl'; subst hl''
  refine ⟨fun e => (by rw [hr] at e; cases e), fun k hk => ?_⟩
  rw [hr] at hk
  rcases List.mem_cons.1 hk with rfl | hk
  · unfold wpOp
    simp only [ho]
    rw [if_pos hg]
    exact .inl (h _ fun _ _ h1 h2 => ⟨h1, h2⟩)
  · rcases List.mem_cons.1 hk with rfl | hk
    · unfold wpOp
      simp only [ho']
      rw [if_pos hg']
      exact .inl (h' _ fun _ _ h1 h2 => ⟨h1, h2⟩)
    · rw [List.mem_singleton] at hk
      subst hk
      unfold wpOp
      simp only [ho'']
      rw [if_pos hg'']
      exact .inl (h'' _ fun _ _ h1 h2 => ⟨h1, h2⟩)
end

theorem boxes4 (w : World) (x y x' y' x'' y'' u v : Value) : ∀ W, W = (((w.alloc (.cells #[x, y] 25)).alloc (.cells #[x', y'] 25)).alloc (.cells #[x'', y''] 25)).alloc (.cells #[u, v] 25) →
    Box W w.heap.size x y ∧ Box W (w.heap.size + 1) x' y' ∧ Box W (w.heap.size + 1 + 1) x'' y'' ∧ Box W (w.heap.size + 1 + 1 + 1) u v ∧ Below w.heap.size w W := by
  rintro W rfl
  have h := boxes3 w x y x' y' x'' y''
  exact ⟨h.1.step (below_alloc _ _), h.2.1.step (below_alloc _ _), h.2.2.1.step (below_alloc _ _), by have := Box.new (((w.alloc (.cells #[x, y] 25)).alloc (.cells #[x', y'] 25)).alloc (.cells #[x'', y''] 25)) u v; rwa [World.size_alloc, World.size_alloc, World.size_alloc] at this,
    h.2.2.2.trans ((below_alloc _ _).mono (by simp; omega))⟩

/-- two structs of two cells and a word are handed back -/
theorem ret_div {fn : Func} {R : Ending → World → Prop} {a : Act} {w : World} {p q u : Tmp} (h : fn.results = #[.cell p 25, .cell q 25, .tmp u]) (g g' : Nat) (x y x' y' : Value)
    (hp : a.tmps.getD p undef = .pointer (some ⟨g, 0, none⟩)) (hq : a.tmps.getD q undef = .pointer (some ⟨g', 0, none⟩)) (hg : Box w g x y) (hg' : Box w g' x' y') (hd : a.defers = []) (hR : R (.returned (.tuple #[.agg #[x, y], .agg #[x', y'], a.tmps.getD u undef])) w) : bodyPost Try.prog fn R .ret a w := by
  refine bodyPost_ret ?_ hd hR
  have hp' : a.tmps[p]?.getD undef = .pointer (some ⟨g, 0, none⟩) := by simpa using hp
  have hq' : a.tmps[q]?.getD undef = .pointer (some ⟨g', 0, none⟩) := by simpa using hq
  simp [results, h, hp', hq', asAddr, run_loadVar_row w g 25 25 #[x, y] (0, 0) _ hg Try.underlying25 rfl Try.infoInt, run_loadVar_row w g' 25 25 #[x', y'] (0, 0) _ hg' Try.underlying25 rfl Try.infoInt]

/-- both cells of a block written anew -/
theorem Box.put {W : World} {B : Nat} {x y : Value} (h : Box W B x y) (x' y' : Value) : Box ((W.setCell ⟨B, 0, none⟩ x').setCell ⟨B, 1, none⟩ y') B x' y' := (h.set0 _).set1 _
theorem Box.other {W : World} {B C : Nat} {x y : Value} (h : Box W B x y) (hne : C ≠ B) (x' y' : Value) : Box ((W.setCell ⟨C, 0, none⟩ x').setCell ⟨C, 1, none⟩ y') B x y := (h.set_ne hne _).set_ne hne _
theorem below_put {n : Nat} {w W : World} (h : Below n w W) {C : Nat} (hC : n ≤ C) (x' y' : Value) : Below n w ((W.setCell ⟨C, 0, none⟩ x').setCell ⟨C, 1, none⟩ y') := (h.setCell (p := ⟨C, 0, none⟩) hC _).setCell (p := ⟨C, 1, none⟩) hC _
/-- a struct that says a number: its cells -/
theorem IntAt.cells {w : World} {v : Value} {z : Int} (h : IntAt w v z) : ∃ s m n c, v = .agg #[.bool s, .slice m n c] ∧ IntAt w (.agg #[.bool s, .slice m n c]) z := by
  have h' := h
  obtain ⟨s, n, m, c, rfl, _, _, _⟩ := h'
  exact ⟨s, m, _, c, rfl, h⟩

end Go.Proofs.Ytgkibmigbjjnnaa
