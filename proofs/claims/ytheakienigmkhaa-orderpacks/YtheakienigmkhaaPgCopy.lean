/- Copies of programs (the document's and the program's). -/
import Derived.Test.YtheakienigmkhaaPgSame
import Derived.Test.YtheakienigmkhaaCalmL
namespace Go.Proofs.Ytheakienigmkhaa
open Go.RowKit

theorem grown_refl (w : World) (r : Option Nat) : w.grownBy w r := ⟨rfl, rfl, rfl, Nat.le_refl _, fun _ _ _ => rfl⟩
theorem intCells_append (l m : List Int) : intCells (l ++ m) = intCells l ++ intCells m := by simp [intCells]
theorem own_base {w : World} {base base' : Nat} {e : TypeId} {size : Nat} {v : Value} {k : Nat} {xs : List Value} (h : w.ownsRow base e size v k xs) (hb : base' ≤ base) : w.ownsRow base' e size v k xs := by
  refine ⟨h.1, ?_⟩
  rcases h.2 with h0 | ⟨g', cap', cur, e, hg, r⟩
  · exact .inl h0
  · exact .inr ⟨g', cap', cur, e, Nat.le_trans hb hg, r⟩
theorem own_slice {w : World} {base : Nat} {e : TypeId} {size : Nat} {v : Value} {k : Nat} {xs : List Value} (h : w.ownsRow base e size v k xs) : ∃ a cap, v = .slice a k cap := by
  rcases h.2 with ⟨h0, h1⟩ | ⟨g', cap', cur, e, _⟩
  · exact ⟨none, 0, by rw [h0, h1]⟩
  · exact ⟨_, _, e⟩

theorem app_code {w : World} {ops : Array Oper} {rest : List Oper} {o : Oper} {a : Act} {Q : Exit → Act → World → Prop} (hgd : o.guard = none) (s x : Operand)
    (ho : o.op = .call { callee := .builtin .append, args := #[s, x], argTypes := #[22, 22] }) (base : Nat) (v : Value) (k : List Ins) (hs : a.eval s = v) (hown : OwnC w base v k)
    (u : Value) (l : List Ins) (hx : a.eval x = u) (hu : CodeAt w u l) (hlen : k.length + l.length ≤ 3518437208883) (hbase : base ≤ w.heap.size)
    (h : ∀ v' w', OwnC w' base v' (k ++ l) → w.grownBy w' v.ownBlock → wpList Try.prog ops Q rest (a.put o.dst v') w') : wpList Try.prog ops Q (o :: rest) a w := by
  obtain ⟨i0, hi, hz0, hz1, hz2⟩ := info_parts info_ins
  obtain ⟨ad, cap, rfl, _, _, hne⟩ := id hu
  cases ad with
  | none =>
    have e : l = [] := by
      cases l with
      | nil => rfl
      | cons y l => obtain ⟨b, off, he, _⟩ := hne (by simp); cases he
    subst e
    have hcap : True := trivial
    refine wpList_plain hgd fun K hK => ?_
    have hrun : (Builtin.append_ #[22, 22] o.type #[v, .slice none 0 cap]).run Try.prog w = .ok v w := by
      rcases hown.2 with ⟨rfl, hk⟩ | ⟨g, cap', cur, rfl, _, _, hnc, _⟩
      · simp [Builtin.append_, run_underlying Try.underlying22, sizeOf, typeInfo, hi, Builtin.lenOf, Builtin.firstCells]
      · simp [Builtin.append_, run_underlying Try.underlying22, sizeOf, typeInfo, hi, Builtin.lenOf, Builtin.firstCells, hnc, storeCells]
    unfold Oper.wp
    simp [execOp, ho, resolve, invoke, builtin, hs, hx, hrun, Result.andThen]
    exact hK _ _ (h v w (by simpa using hown) (grown_refl _ _))
  | some ad =>
    refine wpList_append_own _ hgd s x 22 ho base 40 i0 (.agg #[.int .i64 0, .int .i64 0, .int .i64 0, .int .i64 0, .int .i64 0]) 5 40 Try.underlying22 hi hz0 hz1 hz2 rfl (by decide) v _ _ hs hown ad l.length cap (insCells l) hx hu.news.1 hu.news.2 (ins_one l) (by unfold maxLen; omega) (by omega) hbase ?_
    intro v' w' ho' hg _
    exact h v' w' (by show w'.ownsRow base 40 5 v' (k ++ l).length (insCells (k ++ l)); rw [List.length_append, insCells_append]; exact ho') hg

theorem app_outs {w : World} {ops : Array Oper} {rest : List Oper} {o : Oper} {a : Act} {Q : Exit → Act → World → Prop} (hgd : o.guard = none) (s x : Operand)
    (ho : o.op = .call { callee := .builtin .append, args := #[s, x], argTypes := #[23, 23] }) (base : Nat) (v : Value) (k : List Int) (hs : a.eval s = v) (hown : OwnO w base v k)
    (u : Value) (l : List Int) (hx : a.eval x = u) (hu : IntsAt w u l) (hlen : k.length + l.length ≤ 17592186044416) (hbase : base ≤ w.heap.size)
    (h : ∀ v' w', OwnO w' base v' (k ++ l) → w.grownBy w' v.ownBlock → wpList Try.prog ops Q rest (a.put o.dst v') w') : wpList Try.prog ops Q (o :: rest) a w := by
  obtain ⟨i0, hi, hz0, hz1, hz2⟩ := info_parts info_int
  obtain ⟨ad, cap, rfl, _, _, hne⟩ := id hu
  cases ad with
  | none =>
    have e : l = [] := by
      cases l with
      | nil => rfl
      | cons y l => obtain ⟨b, off, he, _⟩ := hne (by simp); cases he
    subst e
    have hcap : True := trivial
    refine wpList_plain hgd fun K hK => ?_
    have hrun : (Builtin.append_ #[23, 23] o.type #[v, .slice none 0 cap]).run Try.prog w = .ok v w := by
      rcases hown.2 with ⟨rfl, hk⟩ | ⟨g, cap', cur, rfl, _, _, hnc, _⟩
      · simp [Builtin.append_, run_underlying Try.underlying23, sizeOf, typeInfo, hi, Builtin.lenOf, Builtin.firstCells]
      · simp [Builtin.append_, run_underlying Try.underlying23, sizeOf, typeInfo, hi, Builtin.lenOf, Builtin.firstCells, hnc, storeCells]
    unfold Oper.wp
    simp [execOp, ho, resolve, invoke, builtin, hs, hx, hrun, Result.andThen]
    exact hK _ _ (h v w (by simpa using hown) (grown_refl _ _))
  | some ad =>
    refine wpList_append_own _ hgd s x 23 ho base 3 i0 (.int .i64 0) 1 8 Try.underlying23 hi hz0 hz1 hz2 rfl (by decide) v _ _ hs hown ad l.length cap (intCells l) hx hu.news.1 hu.news.2 (int_one l) (by unfold maxLen; omega) (by omega) hbase ?_
    intro v' w' ho' hg _
    exact h v' w' (by show w'.ownsRow base 3 1 v' (k ++ l).length (intCells (k ++ l)); rw [List.length_append, intCells_append]; exact ho') hg

theorem own_put {w : World} {base : Nat} {e : TypeId} {size : Nat} {v : Value} {k : Nat} {xs : List Value} (h : w.ownsRow base e size v k xs) {C : Nat} (hC : C < base) (x' y' u' v' : Value) : ((((w.setCell ⟨C, 0, none⟩ x').setCell ⟨C, 1, none⟩ y').setCell ⟨C, 2, none⟩ u').setCell ⟨C, 3, none⟩ v').ownsRow base e size v k xs :=
  ownsRow_setCell_below (ownsRow_setCell_below (ownsRow_setCell_below (ownsRow_setCell_below h (a := ⟨C, 0, none⟩) hC _) (a := ⟨C, 1, none⟩) hC _) (a := ⟨C, 2, none⟩) hC _) (a := ⟨C, 3, none⟩) hC _
theorem info_prog : (Try.prog.info? 25).map (·.size) = some 4 := by kernel_rfl
/-- a program is handed back -/
theorem ret_pg {fn : Func} {R : Ending → World → Prop} {a : Act} {w : World} {p : Tmp} (h : fn.results = #[.cell p 25]) (g : Nat) (x y z u : Value)
    (hp : a.tmps.getD p undef = .pointer (some ⟨g, 0, none⟩)) (hg : Box4 w g 25 x y z u) (hd : a.defers = []) (hR : R (.returned (.agg #[x, y, z, u])) w) : bodyPost Try.prog fn R .ret a w := by
  refine bodyPost_ret ?_ hd hR
  have hp' : a.tmps[p]?.getD undef = .pointer (some ⟨g, 0, none⟩) := by simpa using hp
  simp [results, h, hp', asAddr, run_loadVar_row w g 25 25 #[x, y, z, u] (0, 0) _ hg Try.underlying25 rfl info_prog]
/-- a program in lists of one's own -/
def OwnPg (w : World) (base : Nat) (v : Value) (p : Pg) : Prop := ∃ vc vo, v = .agg #[.int .i64 p.ins, .int .i64 p.regs, vc, vo] ∧ OwnC w base vc p.code ∧ OwnO w base vo p.outs
theorem OwnPg.at {w : World} {base : Nat} {v : Value} {p : Pg} (h : OwnPg w base v p) : PgAt w v p := by
  obtain ⟨vc, vo, rfl, h1, h2⟩ := h
  obtain ⟨a, c, rfl⟩ := own_slice h1
  obtain ⟨a', c', rfl⟩ := own_slice h2
  exact ⟨a, c, a', c', rfl, OwnC.at h1, OwnO.at h2⟩
theorem OwnPg.below {w w' : World} {base : Nat} {v : Value} {p : Pg} (h : OwnPg w base v p) (hb : Below w.heap.size w w') : OwnPg w' base v p := by
  obtain ⟨vc, vo, rfl, h1, h2⟩ := h
  exact ⟨vc, vo, rfl, own_below h1 hb, own_below h2 hb⟩
def CopyR (w w' : World) (e : Ending) (p : Pg) : Prop := ∃ v, e = .returned v ∧ OwnPg w' w.heap.size v p

set_option maxRecDepth 100000 in
set_option maxHeartbeats 8000000 in
theorem rcopy_big (v : Value) (p : Pg) (w : World) (h : PgAt w v p) (hl : p.code.length ≤ 3518437208883 ∧ p.outs.length ≤ 17592186044416) :
    Calls Try.prog 14 #[v] w fun e w' => CopyR w w' e p ∧ Below w.heap.size w w' := by
  obtain ⟨ca, cc, oa, oc, rfl, hc, ho⟩ := h
  have KC := hide hc
  have KO := hide ho
  clear hc ho
  go_enter Try.func14, Try.ntmps14
  go_upto_region 1 with fail
  go_upto_region 2 with fail
  have b1 := below_alloc w (.cells #[.int .i64 p.ins, .int .i64 p.regs, .slice ca p.code.length cc, .slice oa p.outs.length oc] 25)
  have b2 := below_alloc (w.alloc (.cells #[.int .i64 p.ins, .int .i64 p.regs, .slice ca p.code.length cc, .slice oa p.outs.length oc] 25)) (.cells #[.int .i64 0, .int .i64 0, .slice none 0 0, .slice none 0 0] 25)
  have b3 := below_alloc ((w.alloc (.cells #[.int .i64 p.ins, .int .i64 p.regs, .slice ca p.code.length cc, .slice oa p.outs.length oc] 25)).alloc (.cells #[.int .i64 0, .int .i64 0, .slice none 0 0, .slice none 0 0] 25)) (.cells #[.int .i64 p.ins, .int .i64 p.regs, .slice none 0 0, .slice none 0 0] 25)
  have PX := hide (((Box4.new w 25 (.int .i64 p.ins) (.int .i64 p.regs) (.slice ca p.code.length cc) (.slice oa p.outs.length oc)).step b2).step b3)
  have RX := hide ((Box4.new (w.alloc (.cells #[.int .i64 p.ins, .int .i64 p.regs, .slice ca p.code.length cc, .slice oa p.outs.length oc] 25)) 25 (.int .i64 0) (.int .i64 0) (.slice none 0 0) (.slice none 0 0)).step b3)
  have QX := hide (Box4.new ((w.alloc (.cells #[.int .i64 p.ins, .int .i64 p.regs, .slice ca p.code.length cc, .slice oa p.outs.length oc] 25)).alloc (.cells #[.int .i64 0, .int .i64 0, .slice none 0 0, .slice none 0 0] 25)) 25 (.int .i64 p.ins) (.int .i64 p.regs) (.slice none 0 0) (.slice none 0 0))
  simp only [World.size_alloc] at RX QX
  have HB := hide (b1.trans ((b2.trans (b3.mono b2.size)).mono b1.size))
  clear b1 b2 b3
  generalize ((w.alloc (.cells #[.int .i64 p.ins, .int .i64 p.regs, .slice ca p.code.length cc, .slice oa p.outs.length oc] 25)).alloc (.cells #[.int .i64 0, .int .i64 0, .slice none 0 0, .slice none 0 0] 25)).alloc (.cells #[.int .i64 p.ins, .int .i64 p.regs, .slice none 0 0, .slice none 0 0] 25) = w1 at *
  obtain ⟨B, hB⟩ : ∃ B, B = w.heap.size := ⟨_, rfl⟩
  have HZ := hide hB
  rw [← hB] at PX RX QX ⊢
  clear hB
  try simp only [Nat.add_assoc, Nat.reduceAdd] at RX QX ⊢
  obtain ⟨R, hR⟩ : ∃ R, R = B + 1 := ⟨_, rfl⟩
  obtain ⟨Q, hQ⟩ : ∃ Q, Q = B + 2 := ⟨_, rfl⟩
  have HR := hide hR
  have HQ := hide hQ
  rw [← hR] at RX ⊢
  rw [← hQ] at QX ⊢
  clear hR hQ
  have LQ := hide QX.out.lt
  have HL := hide hl
  clear hl
  have p2 := PX.out.cell2
  have q2 := QX.out.cell2
  have NC : Hid (OwnC w1 w1.heap.size (.slice none 0 0) []) := hide (World.ownsRow_nil _ _ _ _)
  go_wp2_with (at_builtin; refine app_code rfl _ _ rfl w1.heap.size _ [] rfl NC.out _ p.code rfl (KC.out.below HB.out) (by have := HL.out; simp; omega) (Nat.le_refl _) ?_)
  intro v1 w2 hown hgrow
  have hb : Below w1.heap.size w1 w2 := (Below.refl _ _).grown hgrow (Nat.le_refl _) (fun k hk => by simp [Value.ownBlock] at hk)
  have OC := hide hown
  clear hown hgrow NC p2 q2
  replace PX := hide (PX.out.step hb)
  replace RX := hide (RX.out.step hb)
  replace QX := hide (QX.out.step hb)
  have WL := hide hb.size
  replace HB := hide (HB.out.trans (hb.mono HB.out.size))
  clear hb
  have q2 := QX.out.cell2
  have f2 := QX.out.free 2
  obtain ⟨va, vcap, hv⟩ := own_slice OC.out
  rw [hv] at OC ⊢
  clear hv
  go_upto_region 3 with fail
  replace OC := hide (ownsRow_setCell_below OC.out (a := ⟨Q, 2, none⟩) LQ.out (.slice va p.code.length vcap))
  replace PX := hide (PX.out.set_ne (C := Q) (o := 2) (by have := HQ.out; omega) (.slice va p.code.length vcap))
  replace RX := hide (RX.out.set_ne (C := Q) (o := 2) (by have := HQ.out; have := HR.out; omega) (.slice va p.code.length vcap))
  replace QX := hide (QX.out.set2 (.slice va p.code.length vcap))
  replace HB := hide (HB.out.setCell (p := ⟨Q, 2, none⟩) (by have := HQ.out; have := HZ.out; show w.heap.size ≤ Q; omega) (.slice va p.code.length vcap))
  have W3 : Hid (w1.heap.size ≤ (w2.setCell ⟨Q, 2, none⟩ (.slice va p.code.length vcap)).heap.size) := hide (by simpa [World.setCell] using WL.out)
  clear f2 q2 WL
  generalize w2.setCell ⟨Q, 2, none⟩ (.slice va p.code.length vcap) = w3 at *
  have p3 := PX.out.cell3
  have q3 := QX.out.cell3
  have NC : Hid (OwnO w3 w1.heap.size (.slice none 0 0) []) := hide (World.ownsRow_nil _ _ _ _)
  go_wp2_with (at_builtin; refine app_outs rfl _ _ rfl w1.heap.size _ [] rfl NC.out _ p.outs rfl (KO.out.below HB.out) (by have := HL.out; simp; omega) W3.out ?_)
  intro v2 w4 hown hgrow
  have hb : Below w3.heap.size w3 w4 := (Below.refl _ _).grown hgrow (Nat.le_refl _) (fun k hk => by simp [Value.ownBlock] at hk)
  have OO := hide hown
  clear hown hgrow NC p3 q3
  replace OC := hide (own_below OC.out hb)
  replace RX := hide (RX.out.step hb)
  replace QX := hide (QX.out.step hb)
  replace HB := hide (HB.out.trans (hb.mono HB.out.size))
  clear hb KO KC PX
  have q3 := QX.out.cell3
  have f3 := QX.out.free 3
  obtain ⟨vb, vcb, hv⟩ := own_slice OO.out
  rw [hv] at OO ⊢
  clear hv
  go_upto_region 4 with fail
  replace OC := hide (ownsRow_setCell_below OC.out (a := ⟨Q, 3, none⟩) LQ.out (.slice vb p.outs.length vcb))
  replace OO := hide (ownsRow_setCell_below OO.out (a := ⟨Q, 3, none⟩) LQ.out (.slice vb p.outs.length vcb))
  replace RX := hide (RX.out.set_ne (C := Q) (o := 3) (by have := HQ.out; have := HR.out; omega) (.slice vb p.outs.length vcb))
  replace QX := hide (QX.out.set3 (.slice vb p.outs.length vcb))
  replace HB := hide (HB.out.setCell (p := ⟨Q, 3, none⟩) (by have := HQ.out; have := HZ.out; show w.heap.size ≤ Q; omega) (.slice vb p.outs.length vcb))
  clear f3 q3
  generalize w4.setCell ⟨Q, 3, none⟩ (.slice vb p.outs.length vcb) = w5 at *
  have q0 := QX.out.cell0
  have q1 := QX.out.cell1
  have q2 := QX.out.cell2
  have q3 := QX.out.cell3
  have r0 := RX.out.cell0
  have r1 := RX.out.cell1
  have r2 := RX.out.cell2
  have r3 := RX.out.cell3
  have f0 := RX.out.free 0
  have f1 := RX.out.free 1
  have f2 := RX.out.free 2
  have f3 := RX.out.free 3
  have LR : Hid (R < w1.heap.size) := hide (by have := LQ.out; have := HQ.out; have := HR.out; omega)
  go_wp2
  refine ret_pg rfl R _ _ _ _ rfl (RX.out.put _ _ _ _) rfl ?_
  refine ⟨⟨_, rfl, _, _, rfl, ?_, ?_⟩, ?_⟩
  · exact own_base (own_put OC.out LR.out _ _ _ _) (by have := LR.out; have := HR.out; have := HZ.out; omega)
  · exact own_base (own_put OO.out LR.out _ _ _ _) (by have := LR.out; have := HR.out; have := HZ.out; omega)
  · exact below_put4 HB.out (by have := HR.out; have := HZ.out; omega) _ _ _ _
theorem rcopy_any (v : Value) (p : Pg) (w : World) (h : PgAt w v p) (hl : p.code.length ≤ 400 ∧ p.outs.length ≤ 400) :
    Calls Try.prog 14 #[v] w fun e w' => CopyR w w' e p ∧ Below w.heap.size w w' := rcopy_big v p w h (by omega)

theorem OwnC.below {w w' : World} {base : Nat} {v : Value} {l : List Ins} (h : OwnC w base v l) (hb : Below w.heap.size w w') : OwnC w' base v l := own_below h hb
theorem OwnO.below {w w' : World} {base : Nat} {v : Value} {l : List Int} (h : OwnO w base v l) (hb : Below w.heap.size w w') : OwnO w' base v l := own_below h hb
set_option maxRecDepth 100000 in
set_option maxHeartbeats 8000000 in
theorem copy2_any (v : Value) (p : Pg) (w : World) (h : PgAt w v p) (hl : p.code.length ≤ 400 ∧ p.outs.length ≤ 400) :
    Calls Try.prog 27 #[v] w fun e w' => CopyR w w' e p ∧ Below w.heap.size w w' := by
  obtain ⟨ca, cc, oa, oc, rfl, hc, ho⟩ := h
  have KC := hide hc
  have KO := hide ho
  have HL := hide hl
  clear hc ho hl
  go_enter Try.func27, Try.ntmps27
  go_upto_region 1 with fail
  have b1 := below_alloc w (.cells #[.int .i64 p.ins, .int .i64 p.regs, .slice ca p.code.length cc, .slice oa p.outs.length oc] 25)
  have b2 := below_alloc (w.alloc (.cells #[.int .i64 p.ins, .int .i64 p.regs, .slice ca p.code.length cc, .slice oa p.outs.length oc] 25)) (.cells #[.int .i64 0, .int .i64 0, .slice none 0 0, .slice none 0 0] 25)
  have PX := hide ((Box4.new w 25 (.int .i64 p.ins) (.int .i64 p.regs) (.slice ca p.code.length cc) (.slice oa p.outs.length oc)).step b2)
  have RX := hide (Box4.new (w.alloc (.cells #[.int .i64 p.ins, .int .i64 p.regs, .slice ca p.code.length cc, .slice oa p.outs.length oc] 25)) 25 (.int .i64 0) (.int .i64 0) (.slice none 0 0) (.slice none 0 0))
  rw [World.size_alloc] at RX
  replace KC := hide ((KC.out.below b1).below b2)
  replace KO := hide ((KO.out.below b1).below b2)
  have HB := hide (b1.trans (b2.mono b1.size))
  clear b1 b2
  generalize ((w.alloc (.cells #[.int .i64 p.ins, .int .i64 p.regs, .slice ca p.code.length cc, .slice oa p.outs.length oc] 25)).alloc (.cells #[.int .i64 0, .int .i64 0, .slice none 0 0, .slice none 0 0] 25)) = w1 at *
  obtain ⟨B, hB⟩ : ∃ B, B = w.heap.size := ⟨_, rfl⟩
  have HZ := hide hB
  rw [← hB] at PX RX ⊢
  clear hB
  obtain ⟨R, hR⟩ : ∃ R, R = B + 1 := ⟨_, rfl⟩
  have HR := hide hR
  rw [← hR] at RX ⊢
  clear hR
  have LR := hide RX.out.lt
  refine wp_calm (fun w' => Below w1.heap.size w1 w' ∧ Box4 w' B 25 (.int .i64 p.ins) (.int .i64 p.regs) (.slice ca p.code.length cc) (.slice oa p.outs.length oc) ∧ Box4 w' R 25 (.int .i64 0) (.int .i64 0) (.slice none 0 0) (.slice none 0 0)) (fun j => j != 11) 12 #[false, false, false, false, false, false, false, false, false, false, false, false] (by kernel_rfl) rfl rfl ?_
  have HF := hide (And.intro (Below.refl w1.heap.size w1).drew (And.intro PX.out.drew RX.out.drew))
  generalize w1.drew = w1d at *
  refine Calm.takeL 12 (i := 0) (v := ?_) (a' := ?_) (l' := #[true, false, false, false, false, false, false, false, false, false, false, false]) (d := some 3) (by kernel_rfl) rfl (by kernel_rfl) (by kernel_rfl) (by kernel_rfl) (by kernel_rfl) (fun _ _ _ h => h) HF.out rfl ?_ rfl rfl ?_ ?_
  rotate_left
  · intro w' hF; clear hF; go_simp; try rfl
  rotate_left
  · simp only [Act.put]; exact rfl
  refine Calm.takeL 12 (i := 1) (v := ?_) (a' := ?_) (l' := #[true, true, false, false, false, false, false, false, false, false, false, false]) (d := some 4) (by kernel_rfl) rfl (by kernel_rfl) (by kernel_rfl) (by kernel_rfl) (by kernel_rfl) (fun _ _ _ h => h) HF.out rfl ?_ rfl rfl ?_ ?_
  rotate_left
  · intro w' hF; have f10 := hF.2.1.cell0; have f11 := hF.2.1.cell1; have f12 := hF.2.1.cell2; have f13 := hF.2.1.cell3; have f20 := hF.2.2.cell0; have f21 := hF.2.2.cell1; have f22 := hF.2.2.cell2; have f23 := hF.2.2.cell3; clear hF; go_simp; try rfl
  rotate_left
  · simp only [Act.put]; exact rfl
  refine Calm.takeL 12 (i := 2) (v := ?_) (a' := ?_) (l' := #[true, true, true, false, false, false, false, false, false, false, false, false]) (d := some 5) (by kernel_rfl) rfl (by kernel_rfl) (by kernel_rfl) (by kernel_rfl) (by kernel_rfl) (fun _ _ _ h => h) HF.out rfl ?_ rfl rfl ?_ ?_
  rotate_left
  · intro w' hF; clear hF; go_simp; try rfl
  rotate_left
  · simp only [Act.put]; exact rfl
  refine Calm.takeL 12 (i := 3) (v := ?_) (a' := ?_) (l' := #[true, true, true, true, false, false, false, false, false, false, false, false]) (d := some 6) (by kernel_rfl) rfl (by kernel_rfl) (by kernel_rfl) (by kernel_rfl) (by kernel_rfl) (fun _ _ _ h => h) HF.out rfl ?_ rfl rfl ?_ ?_
  rotate_left
  · intro w' hF; have f10 := hF.2.1.cell0; have f11 := hF.2.1.cell1; have f12 := hF.2.1.cell2; have f13 := hF.2.1.cell3; have f20 := hF.2.2.cell0; have f21 := hF.2.2.cell1; have f22 := hF.2.2.cell2; have f23 := hF.2.2.cell3; clear hF; go_simp; try rfl
  rotate_left
  · simp only [Act.put]; exact rfl
  refine Calm.takeL 12 (i := 4) (v := ?_) (a' := ?_) (l' := #[true, true, true, true, true, false, false, false, false, false, false, false]) (d := some 7) (by kernel_rfl) rfl (by kernel_rfl) (by kernel_rfl) (by kernel_rfl) (by kernel_rfl) (fun _ _ _ h => h) HF.out rfl ?_ rfl rfl ?_ ?_
  rotate_left
  · intro w' hF; clear hF; go_simp; try rfl
  rotate_left
  · simp only [Act.put]; exact rfl
  refine Calm.takeL 12 (i := 5) (v := ?_) (a' := ?_) (l' := #[true, true, true, true, true, true, false, false, false, false, false, false]) (d := some 8) (by kernel_rfl) rfl (by kernel_rfl) (by kernel_rfl) (by kernel_rfl) (by kernel_rfl) (fun _ _ _ h => h) HF.out rfl ?_ rfl rfl ?_ ?_
  rotate_left
  · intro w' hF; have f10 := hF.2.1.cell0; have f11 := hF.2.1.cell1; have f12 := hF.2.1.cell2; have f13 := hF.2.1.cell3; have f20 := hF.2.2.cell0; have f21 := hF.2.2.cell1; have f22 := hF.2.2.cell2; have f23 := hF.2.2.cell3; clear hF; go_simp; try rfl
  rotate_left
  · simp only [Act.put]; exact rfl
  refine Calm.takeL 12 (i := 7) (v := ?_) (a' := ?_) (l' := #[true, true, true, true, true, true, false, true, false, false, false, false]) (d := some 10) (by kernel_rfl) rfl (by kernel_rfl) (by kernel_rfl) (by kernel_rfl) (by kernel_rfl) (fun _ _ _ h => h) HF.out rfl ?_ rfl rfl ?_ ?_
  rotate_left
  · intro w' hF; clear hF; go_simp; try rfl
  rotate_left
  · simp only [Act.put]; exact rfl
  refine Calm.takeL 12 (i := 8) (v := ?_) (a' := ?_) (l' := #[true, true, true, true, true, true, false, true, true, false, false, false]) (d := some 11) (by kernel_rfl) rfl (by kernel_rfl) (by kernel_rfl) (by kernel_rfl) (by kernel_rfl) (fun _ _ _ h => h) HF.out rfl ?_ rfl rfl ?_ ?_
  rotate_left
  · intro w' hF; have f10 := hF.2.1.cell0; have f11 := hF.2.1.cell1; have f12 := hF.2.1.cell2; have f13 := hF.2.1.cell3; have f20 := hF.2.2.cell0; have f21 := hF.2.2.cell1; have f22 := hF.2.2.cell2; have f23 := hF.2.2.cell3; clear hF; go_simp; try rfl
  rotate_left
  · simp only [Act.put]; exact rfl
  refine Calm.one (i := 6) (l' := #[true, true, true, true, true, true, true, true, true, false, false, false]) (by kernel_rfl) rfl rfl rfl fun K hK => ?_
  go_simp
  refine (clonec_any _ p.code _ (KC.out.below HF.out.1) (by have := HL.out; omega)).mono ?_
  rintro e w5 ⟨⟨vc, rfl, hown⟩, hb⟩
  obtain ⟨va, vcap, rfl⟩ := own_slice hown
  have HF' := hide (And.intro (HF.out.1.trans ((hb).mono HF.out.1.size)) (And.intro (HF.out.2.1.step (hb)) (HF.out.2.2.step (hb))))
  have OC := hide ((show OwnC _ _ _ _ from own_base hown (HF.out.1.size)))
  refine hK _ _ (fun _ => HF'.out) ?_
  clear hK K HF hb hown
  have HF := hide HF'.out
  clear HF'
  refine Calm.one (i := 9) (l' := #[true, true, true, true, true, true, true, true, true, true, false, false]) (by kernel_rfl) rfl rfl rfl fun K hK => ?_
  go_simp
  refine (cloneo_any _ p.outs _ (KO.out.below HF.out.1) (by have := HL.out; omega)).mono ?_
  rintro e w6 ⟨⟨vo, rfl, hown⟩, hb⟩
  obtain ⟨vb, vcb, rfl⟩ := own_slice hown
  replace OC := hide (OC.out.below (hb))
  have HF' := hide (And.intro (HF.out.1.trans ((hb).mono HF.out.1.size)) (And.intro (HF.out.2.1.step (hb)) (HF.out.2.2.step (hb))))
  have OO := hide ((show OwnO _ _ _ _ from own_base hown (HF.out.1.size)))
  refine hK _ _ (fun _ => HF'.out) ?_
  clear hK K HF hb hown
  have HF := hide HF'.out
  clear HF'
  refine Calm.takeL 12 (i := 10) (v := ?_) (a' := ?_) (l' := #[true, true, true, true, true, true, true, true, true, true, true, false]) (d := some 13) (by kernel_rfl) rfl (by kernel_rfl) (by kernel_rfl) (by kernel_rfl) (by kernel_rfl) (fun _ _ _ h => h) HF.out rfl ?_ rfl rfl ?_ ?_
  rotate_left
  · intro w' hF; clear hF; go_simp; try rfl
  rotate_left
  · simp only [Act.put]; exact rfl
  refine Calm.one (i := 11) (l' := #[true, true, true, true, true, true, true, true, true, true, true, true]) (by kernel_rfl) rfl rfl rfl fun K hK => ?_
  have RX := hide HF.out.2.2
  have HW := hide HF.out.1
  have r0 := RX.out.cell0
  have r1 := RX.out.cell1
  have r2 := RX.out.cell2
  have r3 := RX.out.cell3
  have f0 := RX.out.free 0
  have f1 := RX.out.free 1
  have f2 := RX.out.free 2
  have f3 := RX.out.free 3
  go_simp
  refine hK _ _ (fun h => absurd h (by decide)) ?_
  clear hK K
  refine Calm.done (by kernel_rfl) ?_
  clear HF r0 r1 r2 r3 f0 f1 f2 f3
  go_wp2
  refine ret_pg rfl R _ _ _ _ rfl (RX.out.put _ _ _ _) rfl ?_
  refine ⟨⟨_, rfl, _, _, rfl, ?_, ?_⟩, ?_⟩
  · exact own_base (own_put OC.out LR.out _ _ _ _) (by have := LR.out; have := HR.out; have := HZ.out; omega)
  · exact own_base (own_put OO.out LR.out _ _ _ _) (by have := LR.out; have := HR.out; have := HZ.out; omega)
  · exact below_put4 (HB.out.trans (HW.out.mono HB.out.size)) (by have := HR.out; have := HZ.out; omega) _ _ _ _
end Go.Proofs.Ytheakienigmkhaa
