/- Copies of programs (the document's and the program's). -/
import Derived.Test.YtgkpdeabcijokaaDoorPgSame
import Derived.Test.YtgkpdeabcijokaaDoorCalmL
namespace Go.Proofs.YtgkpdeabcijokaaDoor
open Go.RowKit

theorem grown_refl (w : World) (r : Option Nat) : w.grownBy w r := ⟨rfl, rfl, rfl, Nat.le_refl _, fun _ _ _ => rfl⟩
theorem intCells_append (l m : List Int) : intCells (l ++ m) = intCells l ++ intCells m := by simp [intCells]
theorem own_base {w : World} {base base' : Nat} {e : TypeId} {size : Nat} {v : Value} {k : Nat} {xs : List Value} (h : w.ownsRow base e size v k xs) (hb : base' ≤ base) : w.ownsRow base' e size v k xs := by
  refine ⟨h.1, ?_⟩
  rcases h.2 with h0 | ⟨g', cap', cur, e, hg, r⟩
  · exact .inl h0
  · exact .inr ⟨g', cap', cur, e, Nat.le_trans hb hg, r⟩
theorem own_slice {w : World} {base : Nat} {e : TypeId} {size : Nat} {v : Value} {k : Nat} {xs : List Value} (h : w.ownsRow base e size v k xs) : ∃ a cap, v = .slice a k cap := by
  rcases h.2 with ⟨h0, h1⟩ | ⟨g', cap', cur, e, _⟩
  · exact ⟨none, 0, by rw [h0, h1]⟩
  · exact ⟨_, _, e⟩

theorem app_code {w : World} {ops : Array Oper} {rest : List Oper} {o : Oper} {a : Act} {Q : Exit → Act → World → Prop} (hgd : o.guard = none) (s x : Operand)
    (ho : o.op = .call { callee := .builtin .append, args := #[s, x], argTypes := #[33, 33] }) (base : Nat) (v : Value) (k : List Ins) (hs : a.eval s = v) (hown : OwnC w base v k)
    (u : Value) (l : List Ins) (hx : a.eval x = u) (hu : CodeAt w u l) (hlen : k.length + l.length ≤ 3518437208883) (hbase : base ≤ w.heap.size)
    (h : ∀ v' w', OwnC w' base v' (k ++ l) → w.grownBy w' v.ownBlock → wpList Tryd.prog ops Q rest (a.put o.dst v') w') : wpList Tryd.prog ops Q (o :: rest) a w := by
  obtain ⟨i0, hi, hz0, hz1, hz2⟩ := info_parts info_ins
  obtain ⟨ad, cap, rfl, _, _, hne⟩ := id hu
  cases ad with
  | none =>
    have e : l = [] := by
      cases l with
      | nil => rfl
      | cons y l => obtain ⟨b, off, he, _⟩ := hne (by simp); cases he
    subst e
    have hcap : True := trivial
    refine wpList_plain hgd fun K hK => ?_
    have hrun : (Builtin.append_ #[33, 33] o.type #[v, .slice none 0 cap]).run Tryd.prog w = .ok v w := by
      rcases hown.2 with ⟨rfl, hk⟩ | ⟨g, cap', cur, rfl, _, _, hnc, _⟩
      · simp [Builtin.append_, run_underlying Tryd.underlying33, sizeOf, typeInfo, hi, Builtin.lenOf, Builtin.firstCells]
      · simp [Builtin.append_, run_underlying Tryd.underlying33, sizeOf, typeInfo, hi, Builtin.lenOf, Builtin.firstCells, hnc, storeCells]
    unfold Oper.wp
    simp [execOp, ho, resolve, invoke, builtin, hs, hx, hrun, Result.andThen]
    exact hK _ _ (h v w (by simpa using hown) (grown_refl _ _))
  | some ad =>
    refine wpList_append_own _ hgd s x 33 ho base 24 i0 (.agg #[.int .i64 0, .int .i64 0, .int .i64 0, .int .i64 0, .int .i64 0]) 5 40 Tryd.underlying33 hi hz0 hz1 hz2 rfl (by decide) v _ _ hs hown ad l.length cap (insCells l) hx hu.news.1 hu.news.2 (ins_one l) (by unfold maxLen; omega) (by omega) hbase ?_
    intro v' w' ho' hg _
    exact h v' w' (by show w'.ownsRow base 24 5 v' (k ++ l).length (insCells (k ++ l)); rw [List.length_append, insCells_append]; exact ho') hg

theorem app_outs {w : World} {ops : Array Oper} {rest : List Oper} {o : Oper} {a : Act} {Q : Exit → Act → World → Prop} (hgd : o.guard = none) (s x : Operand)
    (ho : o.op = .call { callee := .builtin .append, args := #[s, x], argTypes := #[34, 34] }) (base : Nat) (v : Value) (k : List Int) (hs : a.eval s = v) (hown : OwnO w base v k)
    (u : Value) (l : List Int) (hx : a.eval x = u) (hu : IntsAt w u l) (hlen : k.length + l.length ≤ 17592186044416) (hbase : base ≤ w.heap.size)
    (h : ∀ v' w', OwnO w' base v' (k ++ l) → w.grownBy w' v.ownBlock → wpList Tryd.prog ops Q rest (a.put o.dst v') w') : wpList Tryd.prog ops Q (o :: rest) a w := by
  obtain ⟨i0, hi, hz0, hz1, hz2⟩ := info_parts info_int
  obtain ⟨ad, cap, rfl, _, _, hne⟩ := id hu
  cases ad with
  | none =>
    have e : l = [] := by
      cases l with
      | nil => rfl
      | cons y l => obtain ⟨b, off, he, _⟩ := hne (by simp); cases he
    subst e
    have hcap : True := trivial
    refine wpList_plain hgd fun K hK => ?_
    have hrun : (Builtin.append_ #[34, 34] o.type #[v, .slice none 0 cap]).run Tryd.prog w = .ok v w := by
      rcases hown.2 with ⟨rfl, hk⟩ | ⟨g, cap', cur, rfl, _, _, hnc, _⟩
      · simp [Builtin.append_, run_underlying Tryd.underlying34, sizeOf, typeInfo, hi, Builtin.lenOf, Builtin.firstCells]
      · simp [Builtin.append_, run_underlying Tryd.underlying34, sizeOf, typeInfo, hi, Builtin.lenOf, Builtin.firstCells, hnc, storeCells]
    unfold Oper.wp
    simp [execOp, ho, resolve, invoke, builtin, hs, hx, hrun, Result.andThen]
    exact hK _ _ (h v w (by simpa using hown) (grown_refl _ _))
  | some ad =>
    refine wpList_append_own _ hgd s x 34 ho base 3 i0 (.int .i64 0) 1 8 Tryd.underlying34 hi hz0 hz1 hz2 rfl (by decide) v _ _ hs hown ad l.length cap (intCells l) hx hu.news.1 hu.news.2 (int_one l) (by unfold maxLen; omega) (by omega) hbase ?_
    intro v' w' ho' hg _
    exact h v' w' (by show w'.ownsRow base 3 1 v' (k ++ l).length (intCells (k ++ l)); rw [List.length_append, intCells_append]; exact ho') hg

theorem own_put {w : World} {base : Nat} {e : TypeId} {size : Nat} {v : Value} {k : Nat} {xs : List Value} (h : w.ownsRow base e size v k xs) {C : Nat} (hC : C < base) (x' y' u' v' : Value) : ((((w.setCell ⟨C, 0, none⟩ x').setCell ⟨C, 1, none⟩ y').setCell ⟨C, 2, none⟩ u').setCell ⟨C, 3, none⟩ v').ownsRow base e size v k xs :=
  ownsRow_setCell_below (ownsRow_setCell_below (ownsRow_setCell_below (ownsRow_setCell_below h (a := ⟨C, 0, none⟩) hC _) (a := ⟨C, 1, none⟩) hC _) (a := ⟨C, 2, none⟩) hC _) (a := ⟨C, 3, none⟩) hC _
theorem info_prog : (Tryd.prog.info? 36).map (·.size) = some 4 := by kernel_rfl
/-- a program is handed back -/
theorem ret_pg {fn : Func} {R : Ending → World → Prop} {a : Act} {w : World} {p : Tmp} (h : fn.results = #[.cell p 36]) (g : Nat) (x y z u : Value)
    (hp : a.tmps.getD p undef = .pointer (some ⟨g, 0, none⟩)) (hg : Box4 w g 36 x y z u) (hd : a.defers = []) (hR : R (.returned (.agg #[x, y, z, u])) w) : bodyPost Tryd.prog fn R .ret a w := by
  refine bodyPost_ret ?_ hd hR
  have hp' : a.tmps[p]?.getD undef = .pointer (some ⟨g, 0, none⟩) := by simpa using hp
  simp [results, h, hp', asAddr, run_loadVar_row w g 36 36 #[x, y, z, u] (0, 0) _ hg Tryd.underlying36 rfl info_prog]
/-- a program in lists of one's own -/
def OwnPg (w : World) (base : Nat) (v : Value) (p : Pg) : Prop := ∃ vc vo, v = .agg #[.int .i64 p.ins, .int .i64 p.regs, vc, vo] ∧ OwnC w base vc p.code ∧ OwnO w base vo p.outs
theorem OwnPg.at {w : World} {base : Nat} {v : Value} {p : Pg} (h : OwnPg w base v p) : PgAt w v p := by
  obtain ⟨vc, vo, rfl, h1, h2⟩ := h
  obtain ⟨a, c, rfl⟩ := own_slice h1
  obtain ⟨a', c', rfl⟩ := own_slice h2
  exact ⟨a, c, a', c', rfl, OwnC.at h1, OwnO.at h2⟩
theorem OwnPg.below {w w' : World} {base : Nat} {v : Value} {p : Pg} (h : OwnPg w base v p) (hb : Below w.heap.size w w') : OwnPg w' base v p := by
  obtain ⟨vc, vo, rfl, h1, h2⟩ := h
  exact ⟨vc, vo, rfl, own_below h1 hb, own_below h2 hb⟩
def CopyR (w w' : World) (e : Ending) (p : Pg) : Prop := ∃ v, e = .returned v ∧ OwnPg w' w.heap.size v p


theorem OwnC.below {w w' : World} {base : Nat} {v : Value} {l : List Ins} (h : OwnC w base v l) (hb : Below w.heap.size w w') : OwnC w' base v l := own_below h hb
theorem OwnO.below {w w' : World} {base : Nat} {v : Value} {l : List Int} (h : OwnO w base v l) (hb : Below w.heap.size w w') : OwnO w' base v l := own_below h hb
end Go.Proofs.YtgkpdeabcijokaaDoor
