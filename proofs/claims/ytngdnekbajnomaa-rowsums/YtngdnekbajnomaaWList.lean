/- lists of numbers of one's own, under way. -/
import Derived.Test.YtngdnekbajnomaaWApp
import Derived.Test.YtngdnekbajnomaaR2Make
namespace Go.Proofs.Ytngdnekbajnomaa
open Go.RowKit

/-- a list of one's own that holds these numbers -/
def ListI (w : World) (base : Nat) (v : Value) (zs : List Int) : Prop :=
  ∃ xs, Own2 w base 36 v zs.length xs ∧ ∀ i, i < zs.length → ∃ s m n c, xs[i * 2]? = some (.bool s) ∧ xs[i * 2 + 1]? = some (.slice m n c) ∧ IntAt w (.agg #[.bool s, .slice m n c]) (zs.getD i 0)
theorem ListI.nil (w : World) (base : Nat) : ListI w base (.slice none 0 0) [] := ⟨[], Own2.nil _ _ _, fun _ hi => absurd hi (Nat.not_lt_zero _)⟩
theorem ListI.below {w w' : World} {base : Nat} {v : Value} {zs : List Int} (h : ListI w base v zs) (hb : Below w.heap.size w w') : ListI w' base v zs := by
  obtain ⟨xs, h1, h2⟩ := h
  refine ⟨xs, h1.below hb, fun i hi => ?_⟩
  obtain ⟨s, m, n, c, k1, k2, k3⟩ := h2 i hi
  exact ⟨s, m, n, c, k1, k2, k3.below hb⟩
theorem ListI.drew {w : World} {base : Nat} {v : Value} {zs : List Int} (h : ListI w base v zs) : ListI w.drew base v zs := h
theorem ListI.app {w w' : World} {base : Nat} {v v' : Value} {zs : List Int} {xs : List Value} {s : Bool} {m : Option Addr} {n c : Nat} {z : Int} (h1 : Own2 w base 36 v zs.length xs)
    (h2 : ∀ i, i < zs.length → ∃ s m n c, xs[i * 2]? = some (.bool s) ∧ xs[i * 2 + 1]? = some (.slice m n c) ∧ IntAt w (.agg #[.bool s, .slice m n c]) (zs.getD i 0)) (hz : IntAt w (.agg #[.bool s, .slice m n c]) z)
    (ho : Own2 w' base 36 v' (zs.length + 1) (xs ++ [.bool s, .slice m n c])) (hg : w.grownBy w' v.ownBlock) : ListI w' base v' (zs ++ [z]) := by
  have hk := h1.spares hg
  have hl : xs.length = zs.length * 2 := h1.1.1
  refine ⟨xs ++ [.bool s, .slice m n c], by rw [List.length_append]; exact ho, fun i hi => ?_⟩
  rw [List.length_append, List.length_singleton] at hi
  rcases Nat.lt_or_ge i zs.length with h | h
  · obtain ⟨s', m', n', c', k1, k2, k3⟩ := h2 i h
    refine ⟨s', m', n', c', ?_, ?_, ?_⟩
    · rw [List.getElem?_append_left (by omega)]; exact k1
    · rw [List.getElem?_append_left (by omega)]; exact k2
    · rw [List.getD_eq_getElem?_getD, List.getElem?_append_left h, ← List.getD_eq_getElem?_getD]; exact k3.keep hk
  · have e : i = zs.length := by omega
    subst e
    refine ⟨s, m, n, c, ?_, ?_, ?_⟩
    · rw [List.getElem?_append_right (by omega), hl, Nat.sub_self]; rfl
    · rw [List.getElem?_append_right (by omega), hl, show zs.length * 2 + 1 - zs.length * 2 = 1 by omega]; rfl
    · rw [List.getD_eq_getElem?_getD, List.getElem?_append_right (Nat.le_refl _), Nat.sub_self]; exact hz.keep hk
theorem ListI.other {w w' : World} {base : Nat} {v : Value} {zs : List Int} {r : Option Nat} (h : ListI w base v zs) (hg : w.grownBy w' r) (hs : Spares w w') (hr : ∀ g, v.ownBlock = some g → r ≠ some g) : ListI w' base v zs := by
  obtain ⟨xs, ⟨⟨hl, h1⟩, h2⟩, h3⟩ := h
  refine ⟨xs, ⟨⟨hl, ?_⟩, fun g cur t fr hgb hh => h2 g cur t fr hgb ?_⟩, fun i hi => ?_⟩
  · rcases h1 with h0 | ⟨g, cap, cur, rfl, hbg, hh, q⟩
    · exact .inl h0
    · exact .inr ⟨g, cap, cur, rfl, hbg, by rw [hg.block g (Array.getElem?_eq_some_iff.1 hh).1 (Ne.symm (hr g rfl))]; exact hh, q⟩
  · rcases h1 with ⟨rfl, _⟩ | ⟨g', cap, cur', rfl, _, hh', q⟩
    · cases hgb
    · have e : g' = g := by simpa [Value.ownBlock] using hgb
      subst e
      rw [← hg.block g' (Array.getElem?_eq_some_iff.1 hh').1 (Ne.symm (hr g' rfl))]; exact hh
  · obtain ⟨s, m, n, c, k1, k2, k3⟩ := h3 i hi
    exact ⟨s, m, n, c, k1, k2, k3.keep hs⟩
theorem ListI.lt {w : World} {base : Nat} {v : Value} {zs : List Int} (h : ListI w base v zs) {g : Nat} (hg : v.ownBlock = some g) : base ≤ g ∧ g < w.heap.size := by
  obtain ⟨xs, h1, _⟩ := h
  exact h1.1.lt g hg
/-- a list of one's own that holds these numbers -/
def ListR (w : World) (base : Nat) (v : Value) (zs : List Int) : Prop :=
  ∃ xs, Own2 w base 39 v zs.length xs ∧ ∀ i, i < zs.length → ∃ s m n c, xs[i * 2]? = some (.bool s) ∧ xs[i * 2 + 1]? = some (.slice m n c) ∧ RInt w (.agg #[.bool s, .slice m n c]) (zs.getD i 0)
theorem ListR.nil (w : World) (base : Nat) : ListR w base (.slice none 0 0) [] := ⟨[], Own2.nil _ _ _, fun _ hi => absurd hi (Nat.not_lt_zero _)⟩
theorem ListR.below {w w' : World} {base : Nat} {v : Value} {zs : List Int} (h : ListR w base v zs) (hb : Below w.heap.size w w') : ListR w' base v zs := by
  obtain ⟨xs, h1, h2⟩ := h
  refine ⟨xs, h1.below hb, fun i hi => ?_⟩
  obtain ⟨s, m, n, c, k1, k2, k3⟩ := h2 i hi
  exact ⟨s, m, n, c, k1, k2, k3.below hb⟩
theorem ListR.drew {w : World} {base : Nat} {v : Value} {zs : List Int} (h : ListR w base v zs) : ListR w.drew base v zs := h
theorem ListR.app {w w' : World} {base : Nat} {v v' : Value} {zs : List Int} {xs : List Value} {s : Bool} {m : Option Addr} {n c : Nat} {z : Int} (h1 : Own2 w base 39 v zs.length xs)
    (h2 : ∀ i, i < zs.length → ∃ s m n c, xs[i * 2]? = some (.bool s) ∧ xs[i * 2 + 1]? = some (.slice m n c) ∧ RInt w (.agg #[.bool s, .slice m n c]) (zs.getD i 0)) (hz : RInt w (.agg #[.bool s, .slice m n c]) z)
    (ho : Own2 w' base 39 v' (zs.length + 1) (xs ++ [.bool s, .slice m n c])) (hg : w.grownBy w' v.ownBlock) : ListR w' base v' (zs ++ [z]) := by
  have hk := h1.spares hg
  have hl : xs.length = zs.length * 2 := h1.1.1
  refine ⟨xs ++ [.bool s, .slice m n c], by rw [List.length_append]; exact ho, fun i hi => ?_⟩
  rw [List.length_append, List.length_singleton] at hi
  rcases Nat.lt_or_ge i zs.length with h | h
  · obtain ⟨s', m', n', c', k1, k2, k3⟩ := h2 i h
    refine ⟨s', m', n', c', ?_, ?_, ?_⟩
    · rw [List.getElem?_append_left (by omega)]; exact k1
    · rw [List.getElem?_append_left (by omega)]; exact k2
    · rw [List.getD_eq_getElem?_getD, List.getElem?_append_left h, ← List.getD_eq_getElem?_getD]; exact k3.keep hk
  · have e : i = zs.length := by omega
    subst e
    refine ⟨s, m, n, c, ?_, ?_, ?_⟩
    · rw [List.getElem?_append_right (by omega), hl, Nat.sub_self]; rfl
    · rw [List.getElem?_append_right (by omega), hl, show zs.length * 2 + 1 - zs.length * 2 = 1 by omega]; rfl
    · rw [List.getD_eq_getElem?_getD, List.getElem?_append_right (Nat.le_refl _), Nat.sub_self]; exact hz.keep hk
theorem ListR.other {w w' : World} {base : Nat} {v : Value} {zs : List Int} {r : Option Nat} (h : ListR w base v zs) (hg : w.grownBy w' r) (hs : Spares w w') (hr : ∀ g, v.ownBlock = some g → r ≠ some g) : ListR w' base v zs := by
  obtain ⟨xs, ⟨⟨hl, h1⟩, h2⟩, h3⟩ := h
  refine ⟨xs, ⟨⟨hl, ?_⟩, fun g cur t fr hgb hh => h2 g cur t fr hgb ?_⟩, fun i hi => ?_⟩
  · rcases h1 with h0 | ⟨g, cap, cur, rfl, hbg, hh, q⟩
    · exact .inl h0
    · exact .inr ⟨g, cap, cur, rfl, hbg, by rw [hg.block g (Array.getElem?_eq_some_iff.1 hh).1 (Ne.symm (hr g rfl))]; exact hh, q⟩
  · rcases h1 with ⟨rfl, _⟩ | ⟨g', cap, cur', rfl, _, hh', q⟩
    · cases hgb
    · have e : g' = g := by simpa [Value.ownBlock] using hgb
      subst e
      rw [← hg.block g' (Array.getElem?_eq_some_iff.1 hh').1 (Ne.symm (hr g' rfl))]; exact hh
  · obtain ⟨s, m, n, c, k1, k2, k3⟩ := h3 i hi
    exact ⟨s, m, n, c, k1, k2, k3.keep hs⟩
theorem ListR.lt {w : World} {base : Nat} {v : Value} {zs : List Int} (h : ListR w base v zs) {g : Nat} (hg : v.ownBlock = some g) : base ≤ g ∧ g < w.heap.size := by
  obtain ⟨xs, h1, _⟩ := h
  exact h1.1.lt g hg
theorem ListI.ints {w : World} {base : Nat} {v : Value} {zs : List Int} (h : ListI w base v zs) : Ints w v zs := by
  obtain ⟨xs, ⟨⟨hl, h1⟩, _⟩, h3⟩ := h
  rcases h1 with ⟨rfl, h0⟩ | ⟨g, cap, cur, rfl, hbg, hh, hn, hm, hc, ht⟩
  · have : zs = [] := List.eq_nil_of_length_eq_zero h0
    subst this
    exact Ints.nil w
  · refine ⟨_, cap, rfl, hn, hm, fun _ => ⟨g, 0, rfl, fun i hi => ?_⟩⟩
    obtain ⟨s, m, n, c, k1, k2, k3⟩ := h3 i hi
    have at' : ∀ j x, xs[j]? = some x → w.cell? ⟨g, j, none⟩ = some x := by
      intro j x hj
      have hjl : j < xs.length := (List.getElem?_eq_some_iff.1 hj).1
      rw [← ht, List.getElem?_take, if_pos (by omega)] at hj
      unfold World.cell?
      simp only [hh]
      rwa [← Array.getElem?_toList]
    exact ⟨s, m, c, n, by rw [Nat.zero_add]; exact at' _ _ k1, by rw [Nat.zero_add]; exact at' _ _ k2, k3⟩
/-- a list of the document's numbers in memory -/
def RInts (w : World) (v : Value) (zs : List Int) : Prop :=
  ∃ a cap, v = .slice a zs.length cap ∧ zs.length ≤ cap ∧ cap ≤ maxLen ∧ (zs ≠ [] → ∃ b off, a = some ⟨b, off, none⟩ ∧
    ∀ i, i < zs.length → ∃ s m c n, w.cell? ⟨b, off + i * 2, none⟩ = some (.bool s) ∧ w.cell? ⟨b, off + i * 2 + 1, none⟩ = some (.slice m n c) ∧ RInt w (.agg #[.bool s, .slice m n c]) (zs.getD i 0))
theorem RInts.below {w w' : World} {v : Value} {zs : List Int} (h : RInts w v zs) (hb : Below w.heap.size w w') : RInts w' v zs := by
  obtain ⟨a, cap, rfl, h1, h2, h3⟩ := h
  refine ⟨a, cap, rfl, h1, h2, fun hx => ?_⟩
  obtain ⟨b, off, rfl, hc⟩ := h3 hx
  refine ⟨b, off, rfl, fun i hi => ?_⟩
  obtain ⟨s, m, c, n, k1, k2, k3⟩ := hc i hi
  exact ⟨s, m, c, n, (hb.cell (World.block_lt_of_cell? w _ k1)).trans k1, (hb.cell (World.block_lt_of_cell? w _ k2)).trans k2, k3.below hb⟩
theorem RInts.at {w : World} {a : Option Addr} {n cap : Nat} {zs : List Int} (h : RInts w (.slice a n cap) zs) {i : Nat} (hi : i < zs.length) :
    ∃ b off, a = some ⟨b, off, none⟩ ∧ ∃ s m l c, CellAt w ⟨b, off + i * 2, none⟩ (.bool s) ∧ CellAt w ⟨b, off + i * 2 + 1, none⟩ (.slice m l c) ∧ RInt w (.agg #[.bool s, .slice m l c]) (zs.getD i 0) := by
  obtain ⟨a', c', he, _, _, h3⟩ := h
  simp only [Value.slice.injEq] at he
  obtain ⟨rfl, _, rfl⟩ := he
  obtain ⟨b, off, rfl, h⟩ := h3 (by intro e; rw [e] at hi; simp at hi)
  obtain ⟨s, m, c, l, k1, k2, k3⟩ := h i hi
  exact ⟨b, off, rfl, s, m, l, c, ⟨k1⟩, ⟨k2⟩, k3⟩
theorem ListR.rints {w : World} {base : Nat} {v : Value} {zs : List Int} (h : ListR w base v zs) : RInts w v zs := by
  obtain ⟨xs, ⟨⟨hl, h1⟩, _⟩, h3⟩ := h
  rcases h1 with ⟨rfl, h0⟩ | ⟨g, cap, cur, rfl, hbg, hh, hn, hm, hc, ht⟩
  · have : zs = [] := List.eq_nil_of_length_eq_zero h0
    subst this
    exact ⟨none, 0, rfl, Nat.le_refl _, Nat.zero_le _, fun h => absurd rfl h⟩
  · refine ⟨_, cap, rfl, hn, hm, fun _ => ⟨g, 0, rfl, fun i hi => ?_⟩⟩
    obtain ⟨s, m, n, c, k1, k2, k3⟩ := h3 i hi
    have at' : ∀ j x, xs[j]? = some x → w.cell? ⟨g, j, none⟩ = some x := by
      intro j x hj
      have hjl : j < xs.length := (List.getElem?_eq_some_iff.1 hj).1
      rw [← ht, List.getElem?_take, if_pos (by omega)] at hj
      unfold World.cell?
      simp only [hh]
      rwa [← Array.getElem?_toList]
    exact ⟨s, m, c, n, by rw [Nat.zero_add]; exact at' _ _ k1, by rw [Nat.zero_add]; exact at' _ _ k2, k3⟩
end Go.Proofs.Ytngdnekbajnomaa
