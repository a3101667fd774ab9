/- Whether two programs are the same (the program's and the document's); whether one is long; what an instruction asks. -/
import Derived.Test.YtheakienigmkhaaPgOwn
namespace Go.Proofs.Ytheakienigmkhaa
open Go.RowKit

noncomputable def eqB {α : Type} (x y : α) : Bool := @decide (x = y) (Classical.propDecidable _)
theorem eqB_yes {α : Type} {x y : α} (h : x = y) : eqB x y = true := @decide_eq_true _ (Classical.propDecidable _) h
theorem eqB_no {α : Type} {x y : α} (h : x ≠ y) : eqB x y = false := @decide_eq_false _ (Classical.propDecidable _) h
theorem ins_ne {x y : Ins} (h : x ≠ y) : x.op ≠ y.op ∨ (x.op = y.op ∧ x.to ≠ y.to) ∨ (x.op = y.op ∧ x.to = y.to ∧ x.a ≠ y.a) ∨ (x.op = y.op ∧ x.to = y.to ∧ x.a = y.a ∧ x.b ≠ y.b) ∨ (x.op = y.op ∧ x.to = y.to ∧ x.a = y.a ∧ x.b = y.b ∧ x.c ≠ y.c) := by
  obtain ⟨o1, t1, a1, b1, c1⟩ := x
  obtain ⟨o2, t2, a2, b2, c2⟩ := y
  by_cases e1 : o1 = o2
  · by_cases e2 : t1 = t2
    · by_cases e3 : a1 = a2
      · by_cases e4 : b1 = b2
        · by_cases e5 : c1 = c2
          · subst e1 e2 e3 e4 e5; exact absurd rfl h
          · exact .inr (.inr (.inr (.inr ⟨e1, e2, e3, e4, e5⟩)))
        · exact .inr (.inr (.inr (.inl ⟨e1, e2, e3, e4⟩)))
      · exact .inr (.inr (.inl ⟨e1, e2, e3⟩))
    · exact .inr (.inl ⟨e1, e2⟩)
  · exact .inl e1
theorem code_eq {l m : List Ins} (hl : l.length = m.length) (h : ∀ j, j < l.length → cd l j = cd m j) : l = m := by
  apply List.ext_getElem hl
  intro i h1 h2
  have := h i h1
  rwa [cd_lt h1, cd_lt h2] at this
theorem outs_eq {l m : List Int} (hl : l.length = m.length) (h : ∀ j, j < l.length → ot l j = ot m j) : l = m := by
  apply List.ext_getElem hl
  intro i h1 h2
  have := h i h1
  rwa [ot_lt h1, ot_lt h2] at this
theorem code_ne {l m : List Ins} {j : Nat} (h : cd l j ≠ cd m j) : l ≠ m := fun e => h (by rw [e])
theorem outs_ne {l m : List Int} {j : Nat} (h : ot l j ≠ ot m j) : l ≠ m := fun e => h (by rw [e])



theorem pg_ne {p q : Pg} (h : ¬ (p.ins = q.ins ∧ p.regs = q.regs ∧ p.code = q.code ∧ p.outs = q.outs)) : eqB p q = false := eqB_no (fun e => h (by rw [e]; exact ⟨rfl, rfl, rfl, rfl⟩))
theorem pg_eq {p q : Pg} (h1 : p.ins = q.ins) (h2 : p.regs = q.regs) (h3 : p.code = q.code) (h4 : p.outs = q.outs) : p = q := by
  obtain ⟨a, b, c, d⟩ := p
  obtain ⟨a', b', c', d'⟩ := q
  simp only at h1 h2 h3 h4
  rw [h1, h2, h3, h4]

end Go.Proofs.Ytheakienigmkhaa
