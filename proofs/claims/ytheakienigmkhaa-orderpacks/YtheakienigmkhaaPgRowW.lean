/- rows of one's own that are written over: what is kept of them. -/
import Derived.Test.YtheakienigmkhaaPgCopy
namespace Go.Proofs.Ytheakienigmkhaa
open Go.RowKit

/-- a row of one's own that is written: n elements of so many cells -/
def RowW (w : World) (base : Nat) (e : TypeId) (size : Nat) (v : Value) (n : Nat) : Prop :=
  (v = .slice none 0 0 ∧ n = 0) ∨ ∃ g cur, v = .slice (some ⟨g, 0, none⟩) n n ∧ base ≤ g ∧ w.heap[g]? = some (.cells cur e (0, 0)) ∧ cur.size = n * size ∧ n ≤ maxLen
theorem RowW.alloc {w w' : World} {base : Nat} {e : TypeId} {size : Nat} {v : Value} {n : Nat} (h : RowW w base e size v n) (hb : Below w.heap.size w w') : RowW w' base e size v n := by
  rcases h with h | ⟨g, cur, h1, h2, h3, h4⟩
  · exact .inl h
  · exact .inr ⟨g, cur, h1, h2, (hb.block g (Array.getElem?_eq_some_iff.1 h3).1).trans h3, h4⟩
theorem own_cap {w : World} {base : Nat} {e : TypeId} {size : Nat} {a : Option Addr} {n cap k : Nat} {xs : List Value} (h : w.ownsRow base e size (.slice a n cap) k xs) : RowW w base e size (.slice a cap cap) cap := by
  rcases h.2 with ⟨h0, _⟩ | ⟨g, cap', cur, h0, hg, hh, h1, h2, h3, _⟩
  · simp only [Value.slice.injEq] at h0
    obtain ⟨rfl, _, rfl⟩ := h0
    exact .inl ⟨rfl, rfl⟩
  · simp only [Value.slice.injEq] at h0
    obtain ⟨rfl, _, rfl⟩ := h0
    exact .inr ⟨g, cur, rfl, hg, hh, h3, h2⟩
theorem row_set {w : World} {base : Nat} {e : TypeId} {size g n : Nat} (h : RowW w base e size (.slice (some ⟨g, 0, none⟩) n n) n) (o : Nat) (c : Value) : RowW (w.setCell ⟨g, o, none⟩ c) base e size (.slice (some ⟨g, 0, none⟩) n n) n := by
  rcases h with ⟨h, _⟩ | ⟨g', cur, h1, h2, h3, h4, h5⟩
  · cases h
  · simp only [Value.slice.injEq, Option.some.injEq, Addr.mk.injEq, and_true] at h1
    subst h1
    refine .inr ⟨g, cur.setIfInBounds o c, rfl, h2, ?_, by simpa using h4, h5⟩
    obtain ⟨hlt, hk⟩ := Array.getElem?_eq_some_iff.1 h3
    show (w.heap.modify g _)[g]? = _
    rw [Array.getElem?_eq_getElem (by rw [Array.size_modify]; exact hlt), Array.getElem_modify_self, hk]
    rfl
theorem row_other {w : World} {base : Nat} {e : TypeId} {size : Nat} {v : Value} {n g : Nat} (h : RowW w base e size v n) {cur : Array Value} {e' : TypeId} (hg : w.heap[g]? = some (.cells cur e' (0, 0))) (hne : e' ≠ e) (o : Nat) (c : Value) : RowW (w.setCell ⟨g, o, none⟩ c) base e size v n := by
  rcases h with h | ⟨g', cur', h1, h2, h3, h4⟩
  · exact .inl h
  · refine .inr ⟨g', cur', h1, h2, ?_, h4⟩
    have : g ≠ g' := by
      intro e1
      subst e1
      rw [h3] at hg
      simp only [Option.some.injEq, Obj.cells.injEq] at hg
      exact hne hg.2.1.symm
    show (w.heap.modify g _)[g']? = _
    rw [Array.getElem?_modify, if_neg this]; exact h3
theorem row_block {w : World} {base : Nat} {e : TypeId} {size g n : Nat} (h : RowW w base e size (.slice (some ⟨g, 0, none⟩) n n) n) : base ≤ g ∧ ∃ cur, w.heap[g]? = some (.cells cur e (0, 0)) ∧ cur.size = n * size := by
  rcases h with ⟨h, _⟩ | ⟨g', cur, h1, h2, h3, h4, h5⟩
  · cases h
  · simp only [Value.slice.injEq, Option.some.injEq, Addr.mk.injEq, and_true] at h1
    subst h1
    exact ⟨h2, cur, h3, h4⟩
theorem row_cell {w : World} {base : Nat} {e : TypeId} {size g n : Nat} (h : RowW w base e size (.slice (some ⟨g, 0, none⟩) n n) n) {j : Nat} (hj : j < n * size) : (∃ c, w.cell? ⟨g, j, none⟩ = some c) ∧ w.frozen? ⟨g, j, none⟩ = false := by
  obtain ⟨_, cur, h3, h4⟩ := row_block h
  refine ⟨⟨cur[j]'(by omega), ?_⟩, ?_⟩
  · simp [World.cell?, h3, h4, hj]
  · simp [World.frozen?, h3]

theorem row_max {w : World} {base : Nat} {e : TypeId} {size : Nat} {v : Value} {n : Nat} (h : RowW w base e size v n) : n ≤ 9223372036854775807 := by
  rcases h with ⟨_, rfl⟩ | ⟨_, _, _, _, _, _, h⟩
  · exact Nat.zero_le _
  · exact h
theorem row_some {w : World} {base : Nat} {e : TypeId} {size : Nat} {a : Option Addr} {n : Nat} (h : RowW w base e size (.slice a n n) n) (hn : 0 < n) : ∃ g, a = some ⟨g, 0, none⟩ := by
  rcases h with ⟨_, rfl⟩ | ⟨g, _, h, _⟩
  · omega
  · simp only [Value.slice.injEq] at h
    exact ⟨g, h.1⟩
theorem rows_set {w : World} {base : Nat} {e e' : TypeId} {size size' g n m : Nat} {v : Value} (h : RowW w base e size (.slice (some ⟨g, 0, none⟩) n n) n ∧ RowW w base e' size' v m) (hne : e ≠ e') (o : Nat) (c : Value) :
    RowW (w.setCell ⟨g, o, none⟩ c) base e size (.slice (some ⟨g, 0, none⟩) n n) n ∧ RowW (w.setCell ⟨g, o, none⟩ c) base e' size' v m := by
  obtain ⟨_, cur, hg, _⟩ := row_block h.1
  exact ⟨row_set h.1 o c, row_other h.2 hg hne o c⟩
theorem PgAt.code {w : World} {p : Pg} {x y : Value} {ca oa : Option Addr} {nc cc no oc : Nat} (h : PgAt w (.agg #[x, y, .slice ca nc cc, .slice oa no oc]) p) : CodeAt w (.slice ca nc cc) p.code := by
  obtain ⟨ca', cc', oa', oc', e, h1, _⟩ := h
  simp at e
  obtain ⟨_, _, ⟨rfl, rfl, rfl⟩, _⟩ := e
  exact h1
end Go.Proofs.Ytheakienigmkhaa
