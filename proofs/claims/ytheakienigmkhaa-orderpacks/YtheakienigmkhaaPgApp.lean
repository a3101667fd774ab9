/- An append of instructions, numbers, truths to a list of one's own, as a single operation, outside of rounds and within them. -/
import Derived.Test.YtheakienigmkhaaPgRNeed
import Derived.Test.YtheakienigmkhaaCalmI
namespace Go.Proofs.Ytheakienigmkhaa
open Go.RowKit

theorem wpListIn_op {P : Program} {l n : Nat} {w : World} {ops : Array Oper} {rest : List Oper} {o : Oper} {a : Act} {Q : Exit → Act → World → Prop} (hg : o.guard = none) (hd : ∀ c, o.op ≠ .defer c)
    (h : ∀ K : Act → World → Prop, (∀ a' w', wpListIn (Fence.wide.inRound l) n P ops Q rest a' w' → K a' w') → o.wp P a w K Q) : wpListIn (Fence.wide.inRound l) n P ops Q (o :: rest) a w :=
  wpListIn_plain hg fun K hK => opIn_of hd (h K hK)
theorem wpList_op {P : Program} {w : World} {ops : Array Oper} {rest : List Oper} {o : Oper} {a : Act} {Q : Exit → Act → World → Prop} (hg : o.guard = none)
    (h : ∀ K : Act → World → Prop, (∀ a' w', wpList P ops Q rest a' w' → K a' w') → o.wp P a w K Q) : wpList P ops Q (o :: rest) a w :=
  wpList_plain hg fun K hK => h K hK
theorem wp_appC {w : World} {o : Oper} {a : Act} {K : Act → World → Prop} {Q : Exit → Act → World → Prop} (s x : Operand)
    (ho : o.op = .call { callee := .builtin .append, args := #[s, x], argTypes := #[22, 22] }) (base : Nat) (v : Value) (k : List Ins) (hs : a.eval s = v) (hown : OwnC w base v k)
    (u : Value) (l : List Ins) (hx : a.eval x = u) (hu : CodeAt w u l) (hlen : k.length + l.length ≤ 1000000) (hbase : base ≤ w.heap.size)
    (h : ∀ v' w', OwnC w' base v' (k ++ l) → w.grownBy w' v.ownBlock → K (a.put o.dst v') w') : o.wp Try.prog a w K Q := by
  obtain ⟨i0, hi, hz0, hz1, hz2⟩ := info_parts info_ins
  obtain ⟨ad, cap, rfl, _, _, hne⟩ := id hu
  cases ad with
  | none =>
    have e : l = [] := by
      cases l with
      | nil => rfl
      | cons y l => obtain ⟨b, off, he, _⟩ := hne (by simp); cases he
    subst e
    have hcap : True := trivial
    have hrun : (Builtin.append_ #[22, 22] o.type #[v, .slice none 0 cap]).run Try.prog w = .ok v w := by
      rcases hown.2 with ⟨rfl, hk⟩ | ⟨g, cap', cur, rfl, _, _, hnc, _⟩
      · simp [Builtin.append_, run_underlying Try.underlying22, sizeOf, typeInfo, hi, Builtin.lenOf, Builtin.firstCells]
      · simp [Builtin.append_, run_underlying Try.underlying22, sizeOf, typeInfo, hi, Builtin.lenOf, Builtin.firstCells, hnc, storeCells]
    unfold Oper.wp
    simp [execOp, ho, resolve, invoke, builtin, hs, hx, hrun, Result.andThen]
    exact h v w (by simpa using hown) (grown_refl _ _)
  | some ad =>
    refine wp_append_own _ s x 22 ho base 40 i0 (.agg #[.int .i64 0, .int .i64 0, .int .i64 0, .int .i64 0, .int .i64 0]) 5 40 Try.underlying22 hi hz0 hz1 hz2 rfl (by decide) v _ _ hs hown ad l.length cap (insCells l) hx hu.news.1 hu.news.2 (ins_one l) (by unfold maxLen; omega) (by omega) hbase ?_
    intro v' w' ho' hg _
    exact h v' w' (by show w'.ownsRow base 40 5 v' (k ++ l).length (insCells (k ++ l)); rw [List.length_append, insCells_append]; exact ho') hg
theorem wp_appO {w : World} {o : Oper} {a : Act} {K : Act → World → Prop} {Q : Exit → Act → World → Prop} (s x : Operand)
    (ho : o.op = .call { callee := .builtin .append, args := #[s, x], argTypes := #[23, 23] }) (base : Nat) (v : Value) (k : List Int) (hs : a.eval s = v) (hown : OwnO w base v k)
    (u : Value) (l : List Int) (hx : a.eval x = u) (hu : IntsAt w u l) (hlen : k.length + l.length ≤ 1000000) (hbase : base ≤ w.heap.size)
    (h : ∀ v' w', OwnO w' base v' (k ++ l) → w.grownBy w' v.ownBlock → K (a.put o.dst v') w') : o.wp Try.prog a w K Q := by
  obtain ⟨i0, hi, hz0, hz1, hz2⟩ := info_parts info_int
  obtain ⟨ad, cap, rfl, _, _, hne⟩ := id hu
  cases ad with
  | none =>
    have e : l = [] := by
      cases l with
      | nil => rfl
      | cons y l => obtain ⟨b, off, he, _⟩ := hne (by simp); cases he
    subst e
    have hcap : True := trivial
    have hrun : (Builtin.append_ #[23, 23] o.type #[v, .slice none 0 cap]).run Try.prog w = .ok v w := by
      rcases hown.2 with ⟨rfl, hk⟩ | ⟨g, cap', cur, rfl, _, _, hnc, _⟩
      · simp [Builtin.append_, run_underlying Try.underlying23, sizeOf, typeInfo, hi, Builtin.lenOf, Builtin.firstCells]
      · simp [Builtin.append_, run_underlying Try.underlying23, sizeOf, typeInfo, hi, Builtin.lenOf, Builtin.firstCells, hnc, storeCells]
    unfold Oper.wp
    simp [execOp, ho, resolve, invoke, builtin, hs, hx, hrun, Result.andThen]
    exact h v w (by simpa using hown) (grown_refl _ _)
  | some ad =>
    refine wp_append_own _ s x 23 ho base 3 i0 (.int .i64 0) 1 8 Try.underlying23 hi hz0 hz1 hz2 rfl (by decide) v _ _ hs hown ad l.length cap (intCells l) hx hu.news.1 hu.news.2 (int_one l) (by unfold maxLen; omega) (by omega) hbase ?_
    intro v' w' ho' hg _
    exact h v' w' (by show w'.ownsRow base 3 1 v' (k ++ l).length (intCells (k ++ l)); rw [List.length_append, intCells_append]; exact ho') hg
/-- a row of truths that may be elsewhere -/
def BoolsAt (w : World) (v : Value) (l : List Bool) : Prop := ∃ a cap, v = .slice a l.length cap ∧ l.length ≤ cap ∧ cap ≤ maxLen ∧ (l ≠ [] → ∃ b off, a = some ⟨b, off, none⟩ ∧ ∀ i, i < l.length → w.cell? ⟨b, off + i, none⟩ = some (.bool (bl l i)))
theorem BoolsAt.news {w : World} {ad : Addr} {n cap : Nat} {l : List Bool} (h : BoolsAt w (.slice (some ad) n cap) l) : (boolCells l).length = l.length * 1 ∧ ∀ j u, (boolCells l)[j]? = some u → w.cell? (ad.add j) = some u := by
  refine ⟨by simp [boolCells], fun j u hu => ?_⟩
  have hj : j < l.length := by
    have := (List.getElem?_eq_some_iff.1 hu).1
    simpa [boolCells] using this
  rw [boolCells_get l j hj] at hu
  cases hu
  obtain ⟨a, c, e, _, _, hne⟩ := h
  obtain ⟨b, off, e2, hc⟩ := hne (by intro e; rw [e] at hj; simp at hj)
  simp only [Value.slice.injEq] at e
  obtain ⟨rfl, _⟩ := e
  cases e2
  have := hc j hj
  have hadd : (⟨b, off, none⟩ : Addr).add j = ⟨b, off + j, none⟩ := by unfold Addr.add; split <;> simp_all
  rw [hadd]; exact this
theorem bool_one (l : List Bool) : ∀ u ∈ boolCells l, u.oneCell' = true := by
  intro u hu
  simp only [boolCells, List.mem_map] at hu
  obtain ⟨b, _, rfl⟩ := hu
  rfl
theorem boolCells_append (l m : List Bool) : boolCells (l ++ m) = boolCells l ++ boolCells m := by simp [boolCells]
theorem OwnB.bools {w : World} {base : Nat} {v : Value} {L : List Bool} (h : OwnB w base v L) : BoolsAt w v L := by
  rcases h.2 with ⟨rfl, h0⟩ | ⟨g, cap, cur, rfl, hb, hg, h1, h2, r⟩
  · exact ⟨none, 0, by rw [h0], by omega, by unfold maxLen; omega, fun e => absurd (List.eq_nil_of_length_eq_zero h0) e⟩
  · exact ⟨_, _, rfl, h1, h2, fun _ => ⟨g, 0, rfl, fun i hi => by rw [Nat.zero_add]; exact OwnB.cell (g := g) h hi⟩⟩
theorem BoolsAt.below {w w' : World} {v : Value} {l : List Bool} (h : BoolsAt w v l) (hb : Below w.heap.size w w') : BoolsAt w' v l := by
  obtain ⟨a, c, e, h1, h2, hne⟩ := h
  refine ⟨a, c, e, h1, h2, fun hl => ?_⟩
  obtain ⟨b, off, e2, hc⟩ := hne hl
  exact ⟨b, off, e2, fun i hi => (hb.cell (World.block_lt_of_cell? _ _ (hc i hi))).trans (hc i hi)⟩
theorem bool1 (w : World) (d : Bool) {n : Nat} (hn : n = w.heap.size) : BoolsAt (w.alloc (.cells #[.bool d] 4)) (.slice (some ⟨n, 0, none⟩) 1 1) [d] := by
  subst hn
  refine ⟨_, _, rfl, Nat.le_refl _, by unfold maxLen; decide, fun _ => ⟨_, _, rfl, fun i hi => ?_⟩⟩
  have e : i = 0 := by simpa using hi
  subst e
  have := heap_alloc_new w (.cells #[.bool d] 4)
  unfold World.cell?
  simp only [this]
  rfl
theorem wp_appB {w : World} {o : Oper} {a : Act} {K : Act → World → Prop} {Q : Exit → Act → World → Prop} (s x : Operand)
    (ho : o.op = .call { callee := .builtin .append, args := #[s, x], argTypes := #[53, 53] }) (base : Nat) (v : Value) (k : List Bool) (hs : a.eval s = v) (hown : OwnB w base v k)
    (u : Value) (l : List Bool) (hx : a.eval x = u) (hu : BoolsAt w u l) (hlen : k.length + l.length ≤ 1000000) (hbase : base ≤ w.heap.size)
    (h : ∀ v' w', OwnB w' base v' (k ++ l) → w.grownBy w' v.ownBlock → K (a.put o.dst v') w') : o.wp Try.prog a w K Q := by
  obtain ⟨i0, hi, hz0, hz1, hz2⟩ := info_parts info_bool
  obtain ⟨ad, cap, rfl, _, _, hne⟩ := id hu
  cases ad with
  | none =>
    have e : l = [] := by
      cases l with
      | nil => rfl
      | cons y l => obtain ⟨b, off, he, _⟩ := hne (by simp); cases he
    subst e
    have hcap : True := trivial
    have hrun : (Builtin.append_ #[53, 53] o.type #[v, .slice none 0 cap]).run Try.prog w = .ok v w := by
      rcases hown.2 with ⟨rfl, hk⟩ | ⟨g, cap', cur, rfl, _, _, hnc, _⟩
      · simp [Builtin.append_, run_underlying Try.underlying53, sizeOf, typeInfo, hi, Builtin.lenOf, Builtin.firstCells]
      · simp [Builtin.append_, run_underlying Try.underlying53, sizeOf, typeInfo, hi, Builtin.lenOf, Builtin.firstCells, hnc, storeCells]
    unfold Oper.wp
    simp [execOp, ho, resolve, invoke, builtin, hs, hx, hrun, Result.andThen]
    exact h v w (by simpa using hown) (grown_refl _ _)
  | some ad =>
    refine wp_append_own _ s x 53 ho base 4 i0 (.bool false) 1 1 Try.underlying53 hi hz0 hz1 hz2 rfl (by decide) v _ _ hs hown ad l.length cap (boolCells l) hx hu.news.1 hu.news.2 (bool_one l) (by unfold maxLen; omega) (by omega) hbase ?_
    intro v' w' ho' hg _
    exact h v' w' (by show w'.ownsRow base 4 1 v' (k ++ l).length (boolCells (k ++ l)); rw [List.length_append, boolCells_append]; exact ho') hg
end Go.Proofs.Ytheakienigmkhaa
