/- swagelaw13.FoldPlains answers true at any two instructions, and turns nothing that was there. -/
import Derived.Test.YtokgdegfcncahaaDoorFoWk
import Derived.Test.YtokgdegfcncahaaDoorFoRm
import Derived.Test.YtokgdegfcncahaaDoorPgRMay
namespace Go.Proofs.YtokgdegfcncahaaDoor
open Go.RowKit

theorem neq_ins (xo xt xa xb xc yo yt ya yb yc : Int) (w : World) : (binOp .neq 24 (.agg #[.int .i64 xo, .int .i64 xt, .int .i64 xa, .int .i64 xb, .int .i64 xc]) (.agg #[.int .i64 yo, .int .i64 yt, .int .i64 ya, .int .i64 yb, .int .i64 yc])).run Tryd.prog w = .ok (.bool (!eqI ⟨xo, xt, xa, xb, xc⟩ ⟨yo, yt, ya, yb, yc⟩)) w := by
  unfold eqI
  by_cases h1 : xo = yo <;> by_cases h2 : xt = yt <;> by_cases h3 : xa = ya <;> by_cases h4 : xb = yb <;> by_cases h5 : xc = yc <;> simp [go_sem, h1, h2, h3, h4, h5]
theorem neq_yes (x y : Ins) (h : x ≠ y) (w : World) : (binOp .neq 24 (.agg #[.int .i64 x.op, .int .i64 x.to, .int .i64 x.a, .int .i64 x.b, .int .i64 x.c]) (.agg #[.int .i64 y.op, .int .i64 y.to, .int .i64 y.a, .int .i64 y.b, .int .i64 y.c])).run Tryd.prog w = .ok (.bool true) w := by
  rw [neq_ins, eqI_no h]; rfl
/-- what fold.Plain comes to: it may not be; it is its own plain form; it has another one -/
inductive PlC (i X : Ins) (t m : Bool) : Prop
  | no (h1 : m = false) (h2 : X = ⟨0, 0, 0, 0, 0⟩) (h3 : t = false)
  | eq (h1 : m = true) (h2 : X = i) (h3 : t = false)
  | ne (h1 : m = true) (h2 : X ≠ i) (h3 : t = true)
theorem plc (i : Ins) : PlC i (plV i) (plT i) (mayB i 128) := by
  unfold plV plT
  cases hm : mayB i 128 with
  | false => exact .no rfl rfl rfl
  | true =>
    by_cases h : plI i = i
    · exact .eq rfl (by rw [if_pos rfl, h]) (by rw [eqI_yes h]; rfl)
    · exact .ne rfl (by rw [if_pos rfl]; exact h) (by rw [eqI_no h]; rfl)
theorem plB_of {i : Ins} (hm : mayB i 128 = true) (h : plI i = i) : plB i = true := by unfold plB; rw [hm, eqI_yes h]; rfl
theorem plB_no {i : Ins} (h : mayB i 128 = false ∨ plI i ≠ i) : plB i = false := by
  unfold plB
  rcases h with h | h
  · rw [h]; rfl
  · rw [eqI_no h, Bool.and_false]
set_option maxRecDepth 100000 in
set_option maxHeartbeats 16000000 in
theorem fplains_walk (i j : Ins) (w : World) (hT : TabW64 w) :
    Calls Tryd.prog 4 #[.agg #[.int .i64 i.op, .int .i64 i.to, .int .i64 i.a, .int .i64 i.b, .int .i64 i.c], .agg #[.int .i64 j.op, .int .i64 j.to, .int .i64 j.a, .int .i64 j.b, .int .i64 j.c]] w fun e w' => e = .returned (.bool true) ∧ Below w.heap.size w w' := by
  have HT := hide hT
  have HT0 := hide hT
  have QI := hide (plc i)
  have QJ := hide (plc j)
  have VI : Hid (mayB i 128 = true → plI i = plV i) := hide (fun h => by unfold plV; rw [if_pos h])
  have VJ : Hid (mayB j 128 = true → plI j = plV j) := hide (fun h => by unfold plV; rw [if_pos h])
  have CI : Hid (∀ u, TabW64 u → Calls Tryd.prog 9 #[.agg #[.int .i64 i.op, .int .i64 i.to, .int .i64 i.a, .int .i64 i.b, .int .i64 i.c]] u fun e w' => e = .returned (.tuple #[.agg #[.int .i64 (plV i).op, .int .i64 (plV i).to, .int .i64 (plV i).a, .int .i64 (plV i).b, .int .i64 (plV i).c], .bool (plT i)]) ∧ Below u.heap.size u w') := hide (fun u h => Plain_any i u h)
  have CJ : Hid (∀ u, TabW64 u → Calls Tryd.prog 9 #[.agg #[.int .i64 j.op, .int .i64 j.to, .int .i64 j.a, .int .i64 j.b, .int .i64 j.c]] u fun e w' => e = .returned (.tuple #[.agg #[.int .i64 (plV j).op, .int .i64 (plV j).to, .int .i64 (plV j).a, .int .i64 (plV j).b, .int .i64 (plV j).c], .bool (plT j)]) ∧ Below u.heap.size u w') := hide (fun u h => Plain_any j u h)
  have DI : Hid (∀ u, Calls Tryd.prog 12 #[.agg #[.int .i64 i.op, .int .i64 i.to, .int .i64 i.a, .int .i64 i.b, .int .i64 i.c], .int .i64 128] u fun e w' => e = .returned (.bool (mayB i 128)) ∧ Below u.heap.size u w') := hide (fun u => rmay_any i 128 u)
  have DJ : Hid (∀ u, Calls Tryd.prog 12 #[.agg #[.int .i64 j.op, .int .i64 j.to, .int .i64 j.a, .int .i64 j.b, .int .i64 j.c], .int .i64 128] u fun e w' => e = .returned (.bool (mayB j 128)) ∧ Below u.heap.size u w') := hide (fun u => rmay_any j 128 u)
  have PI : Hid (mayB i 128 = true → ∀ u, Calls Tryd.prog 13 #[.agg #[.int .i64 i.op, .int .i64 i.to, .int .i64 i.a, .int .i64 i.b, .int .i64 i.c]] u fun e w' => e = .returned (.agg #[.int .i64 (plV i).op, .int .i64 (plV i).to, .int .i64 (plV i).a, .int .i64 (plV i).b, .int .i64 (plV i).c]) ∧ Below u.heap.size u w') := hide (fun h u => by rw [← VI.out h]; exact rplain_any i u h)
  have PJ : Hid (mayB j 128 = true → ∀ u, Calls Tryd.prog 13 #[.agg #[.int .i64 j.op, .int .i64 j.to, .int .i64 j.a, .int .i64 j.b, .int .i64 j.c]] u fun e w' => e = .returned (.agg #[.int .i64 (plV j).op, .int .i64 (plV j).to, .int .i64 (plV j).a, .int .i64 (plV j).b, .int .i64 (plV j).c]) ∧ Below u.heap.size u w') := hide (fun h u => by rw [← VJ.out h]; exact rplain_any j u h)
  have MM : Hid (∀ u, TabW64 u → Calls Tryd.prog 10 #[.agg #[.int .i64 i.op, .int .i64 i.to, .int .i64 i.a, .int .i64 i.b, .int .i64 i.c], .agg #[.int .i64 j.op, .int .i64 j.to, .int .i64 j.a, .int .i64 j.b, .int .i64 j.c]] u fun e w' => e = mlE (meT i j) ∧ Below u.heap.size u w') := hide (fun u h => Melt_any i j u h)
  have RM : Hid (mayB i 128 = true → mayB j 128 = true → plV i = i → plV j = j → ∀ u, Calls Tryd.prog 14 #[.agg #[.int .i64 i.op, .int .i64 i.to, .int .i64 i.a, .int .i64 i.b, .int .i64 i.c], .agg #[.int .i64 j.op, .int .i64 j.to, .int .i64 j.a, .int .i64 j.b, .int .i64 j.c]] u fun e w' => e = mlE (meT i j) ∧ Below u.heap.size u w') := hide (fun h1 h2 h3 h4 u => by
    have e : meT i j = meI i j := by unfold meT; rw [if_pos ⟨plB_of h1 ((VI.out h1).trans h3), plB_of h2 ((VJ.out h2).trans h4)⟩]
    rw [e]; exact rmelt_any i j u h1 h2)
  have MN : Hid ((mayB i 128 = false ∨ plV i ≠ i) ∨ (mayB j 128 = false ∨ plV j ≠ j) → meT i j = none) := hide (fun h => by
    unfold meT
    rw [if_neg]
    rintro ⟨k1, k2⟩
    have m1 := plB_may k1
    have m2 := plB_may k2
    rcases h with (h | h) | (h | h)
    · rw [m1] at h; cases h
    · rw [plB_no (.inr (by rw [VI.out m1]; exact h))] at k1; cases k1
    · rw [m2] at h; cases h
    · rw [plB_no (.inr (by rw [VJ.out m2]; exact h))] at k2; cases k2)
  clear hT VI VJ
  obtain ⟨ao, t1, aa, ab, ac⟩ := i
  obtain ⟨bo, t2, ba, bb, bc⟩ := j
  dsimp only at CI CJ DI DJ PI PJ MM RM ⊢
  generalize plV ⟨ao, t1, aa, ab, ac⟩ = X at *
  generalize plV ⟨bo, t2, ba, bb, bc⟩ = Y at *
  generalize plT ⟨ao, t1, aa, ab, ac⟩ = tx at *
  generalize plT ⟨bo, t2, ba, bb, bc⟩ = ty at *
  generalize mayB ⟨ao, t1, aa, ab, ac⟩ 128 = mx at *
  generalize mayB ⟨bo, t2, ba, bb, bc⟩ 128 = my at *
  generalize meT ⟨ao, t1, aa, ab, ac⟩ ⟨bo, t2, ba, bb, bc⟩ = M at *
  go_enter Tryd.func4, Tryd.ntmps4
  go_upto_region 1 with fail
  have b1 := below_alloc w (.cells #[.int .i64 ao, .int .i64 t1, .int .i64 aa, .int .i64 ab, .int .i64 ac] 24)
  have b2 := below_alloc (w.alloc (.cells #[.int .i64 ao, .int .i64 t1, .int .i64 aa, .int .i64 ab, .int .i64 ac] 24)) (.cells #[.int .i64 bo, .int .i64 t2, .int .i64 ba, .int .i64 bb, .int .i64 bc] 24)
  have IX0 := ((Box5.new w 24 ⟨ao, t1, aa, ab, ac⟩).step b2)
  replace IX0 : Hid (Box5 ((w.alloc (.cells #[.int .i64 ao, .int .i64 t1, .int .i64 aa, .int .i64 ab, .int .i64 ac] 24)).alloc (.cells #[.int .i64 bo, .int .i64 t2, .int .i64 ba, .int .i64 bb, .int .i64 bc] 24)) (w.heap.size) 24 ⟨ao, t1, aa, ab, ac⟩) := hide IX0
  have IX1 := (Box5.new (w.alloc (.cells #[.int .i64 ao, .int .i64 t1, .int .i64 aa, .int .i64 ab, .int .i64 ac] 24)) 24 ⟨bo, t2, ba, bb, bc⟩)
  simp only [World.size_alloc] at IX1
  replace IX1 : Hid (Box5 ((w.alloc (.cells #[.int .i64 ao, .int .i64 t1, .int .i64 aa, .int .i64 ab, .int .i64 ac] 24)).alloc (.cells #[.int .i64 bo, .int .i64 t2, .int .i64 ba, .int .i64 bb, .int .i64 bc] 24)) (w.heap.size + 1) 24 ⟨bo, t2, ba, bb, bc⟩) := hide IX1
  have HB := hide (b1.trans (b2.mono b1.size))
  replace HT := hide ((HT.out.below b1).below b2)
  clear b1 b2
  generalize (w.alloc (.cells #[.int .i64 ao, .int .i64 t1, .int .i64 aa, .int .i64 ab, .int .i64 ac] 24)).alloc (.cells #[.int .i64 bo, .int .i64 t2, .int .i64 ba, .int .i64 bb, .int .i64 bc] 24) = w1 at *
  obtain ⟨B1, hB1⟩ : ∃ B, B = w.heap.size + 1 := ⟨_, rfl⟩
  have ZB1 := hide hB1
  rw [← hB1] at IX1 ⊢
  clear hB1
  obtain ⟨B0, hB0⟩ : ∃ B, B = w.heap.size := ⟨_, rfl⟩
  have ZB0 := hide hB0
  rw [← hB0] at IX0 ⊢
  clear hB0
  have k0 := IX0.out.cells.cell0
  have k1 := IX0.out.cells.cell1
  have k2 := IX0.out.cells.cell2
  have k3 := IX0.out.cells.cell3
  have k4 := IX0.out.cells.cell4
  simp only [Nat.zero_add] at k1 k2 k3 k4
  have l0 := IX1.out.cells.cell0
  have l1 := IX1.out.cells.cell1
  have l2 := IX1.out.cells.cell2
  have l3 := IX1.out.cells.cell3
  have l4 := IX1.out.cells.cell4
  simp only [Nat.zero_add] at l1 l2 l3 l4
  go_wp2_with fail
  refine (works_any _ HT.out).mono ?_
  rintro e w2 ⟨rfl, hb⟩
  replace IX0 := hide (IX0.out.step hb)
  replace IX1 := hide (IX1.out.step hb)
  replace HT := hide (HT.out.below hb)
  replace HB := hide (HB.out.trans (hb.mono HB.out.size))
  clear hb k0 k1 k2 k3 k4 l0 l1 l2 l3 l4
  have k0 := IX0.out.cells.cell0
  have k1 := IX0.out.cells.cell1
  have k2 := IX0.out.cells.cell2
  have k3 := IX0.out.cells.cell3
  have k4 := IX0.out.cells.cell4
  simp only [Nat.zero_add] at k1 k2 k3 k4
  go_wp2_with fail
  refine (CI.out _ HT.out).mono ?_
  rintro e w3 ⟨rfl, hb⟩
  replace IX0 := hide (IX0.out.step hb)
  replace IX1 := hide (IX1.out.step hb)
  replace HT := hide (HT.out.below hb)
  replace HB := hide (HB.out.trans (hb.mono HB.out.size))
  clear hb k0 k1 k2 k3 k4
  go_upto_region 4 with fail
  have hb := below_alloc w3 (.cells #[.int .i64 X.op, .int .i64 X.to, .int .i64 X.a, .int .i64 X.b, .int .i64 X.c] 24)
  have XX : Hid (Box5 (w3.alloc (.cells #[.int .i64 X.op, .int .i64 X.to, .int .i64 X.a, .int .i64 X.b, .int .i64 X.c] 24)) w3.heap.size 24 X) := hide (Box5.new w3 24 X)
  replace IX0 := hide (IX0.out.step hb)
  replace IX1 := hide (IX1.out.step hb)
  replace HT := hide (HT.out.below hb)
  replace HB := hide (HB.out.trans (hb.mono HB.out.size))
  clear hb
  generalize w3.alloc (.cells #[.int .i64 X.op, .int .i64 X.to, .int .i64 X.a, .int .i64 X.b, .int .i64 X.c] 24) = w4 at *
  generalize w3.heap.size = BX at *
  have l0 := IX1.out.cells.cell0
  have l1 := IX1.out.cells.cell1
  have l2 := IX1.out.cells.cell2
  have l3 := IX1.out.cells.cell3
  have l4 := IX1.out.cells.cell4
  simp only [Nat.zero_add] at l1 l2 l3 l4
  go_wp2_with fail
  refine (CJ.out _ HT.out).mono ?_
  rintro e w5 ⟨rfl, hb⟩
  replace IX0 := hide (IX0.out.step hb)
  replace IX1 := hide (IX1.out.step hb)
  replace HT := hide (HT.out.below hb)
  replace XX := hide (XX.out.step hb)
  replace HB := hide (HB.out.trans (hb.mono HB.out.size))
  clear hb l0 l1 l2 l3 l4
  go_upto_region 5 with fail
  have hb := below_alloc w5 (.cells #[.int .i64 Y.op, .int .i64 Y.to, .int .i64 Y.a, .int .i64 Y.b, .int .i64 Y.c] 24)
  have YX : Hid (Box5 (w5.alloc (.cells #[.int .i64 Y.op, .int .i64 Y.to, .int .i64 Y.a, .int .i64 Y.b, .int .i64 Y.c] 24)) w5.heap.size 24 Y) := hide (Box5.new w5 24 Y)
  replace IX0 := hide (IX0.out.step hb)
  replace IX1 := hide (IX1.out.step hb)
  replace HT := hide (HT.out.below hb)
  replace XX := hide (XX.out.step hb)
  replace HB := hide (HB.out.trans (hb.mono HB.out.size))
  clear hb
  generalize w5.alloc (.cells #[.int .i64 Y.op, .int .i64 Y.to, .int .i64 Y.a, .int .i64 Y.b, .int .i64 Y.c] 24) = w6 at *
  generalize w5.heap.size = BY at *
  go_cut [9, 10] from 29 (fun pa pb wx => pa = .bool mx ∧ pb = .bool my ∧ Below w6.heap.size w6 wx)
  case first =>
    refine wp_calm (fun w' => Below w6.heap.size w6 w') (fun _ => true) 6 #[false, false, false, false, false, false] (by kernel_rfl) rfl rfl ?_
    have HF := hide ((Below.refl w6.heap.size w6).drew)
    generalize w6.drew = w6d at *
    refine Calm.takeL 6 (i := 0) (v := ?_) (a' := ?_) (l' := #[true, false, false, false, false, false]) (d := some 29) (by kernel_rfl) rfl (by kernel_rfl) (by kernel_rfl) (by kernel_rfl) (by kernel_rfl) (fun _ _ _ h => h) HF.out rfl ?_ rfl rfl ?_ ?_
    rotate_left
    · intro w' hF; have e0 := (IX0.out.step hF).cells.cell0; have e1 := (IX0.out.step hF).cells.cell1; have e2 := (IX0.out.step hF).cells.cell2; have e3 := (IX0.out.step hF).cells.cell3; have e4 := (IX0.out.step hF).cells.cell4; simp only [Nat.zero_add] at e1 e2 e3 e4; have g0 := (IX1.out.step hF).cells.cell0; have g1 := (IX1.out.step hF).cells.cell1; have g2 := (IX1.out.step hF).cells.cell2; have g3 := (IX1.out.step hF).cells.cell3; have g4 := (IX1.out.step hF).cells.cell4; simp only [Nat.zero_add] at g1 g2 g3 g4; clear hF; go_simp; try rfl
    rotate_left
    · simp only [Act.put]; exact rfl
    refine Calm.takeL 6 (i := 2) (v := ?_) (a' := ?_) (l' := #[true, false, true, false, false, false]) (d := some 31) (by kernel_rfl) rfl (by kernel_rfl) (by kernel_rfl) (by kernel_rfl) (by kernel_rfl) (fun _ _ _ h => h) HF.out rfl ?_ rfl rfl ?_ ?_
    rotate_left
    · intro w' hF; have e0 := (IX0.out.step hF).cells.cell0; have e1 := (IX0.out.step hF).cells.cell1; have e2 := (IX0.out.step hF).cells.cell2; have e3 := (IX0.out.step hF).cells.cell3; have e4 := (IX0.out.step hF).cells.cell4; simp only [Nat.zero_add] at e1 e2 e3 e4; have g0 := (IX1.out.step hF).cells.cell0; have g1 := (IX1.out.step hF).cells.cell1; have g2 := (IX1.out.step hF).cells.cell2; have g3 := (IX1.out.step hF).cells.cell3; have g4 := (IX1.out.step hF).cells.cell4; simp only [Nat.zero_add] at g1 g2 g3 g4; clear hF; go_simp; try rfl
    rotate_left
    · simp only [Act.put]; exact rfl
    refine Calm.one (i := 1) (l' := #[true, true, true, false, false, false]) (by kernel_rfl) rfl rfl rfl fun K hK => ?_
    go_simp
    refine (DI.out _).mono ?_
    rintro e u1 ⟨rfl, hb⟩
    have HF' := hide (HF.out.trans ((hb).mono HF.out.size))
    refine hK _ _ (fun _ => HF'.out) ?_
    clear hK K HF hb
    have HF := hide HF'.out
    clear HF'
    refine Calm.one (i := 3) (l' := #[true, true, true, true, false, false]) (by kernel_rfl) rfl rfl rfl fun K hK => ?_
    go_simp
    refine (DJ.out _).mono ?_
    rintro e u2 ⟨rfl, hb⟩
    have HF' := hide (HF.out.trans ((hb).mono HF.out.size))
    refine hK _ _ (fun _ => HF'.out) ?_
    clear hK K HF hb
    have HF := hide HF'.out
    clear HF'
    refine Calm.takeL 6 (i := 4) (v := ?_) (a' := ?_) (l' := #[true, true, true, true, true, false]) (d := some 9) (by kernel_rfl) rfl (by kernel_rfl) (by kernel_rfl) (by kernel_rfl) (by kernel_rfl) (fun _ _ _ h => h) HF.out rfl ?_ rfl rfl ?_ ?_
    rotate_left
    · intro w' hF; clear hF; go_simp; try rfl
    rotate_left
    · simp only [Act.put]; exact rfl
    refine Calm.takeL 6 (i := 5) (v := ?_) (a' := ?_) (l' := #[true, true, true, true, true, true]) (d := some 10) (by kernel_rfl) rfl (by kernel_rfl) (by kernel_rfl) (by kernel_rfl) (by kernel_rfl) (fun _ _ _ h => h) HF.out rfl ?_ rfl rfl ?_ ?_
    rotate_left
    · intro w' hF; clear hF; go_simp; try rfl
    rotate_left
    · simp only [Act.put]; exact rfl
    refine Calm.done (by kernel_rfl) ?_
    have HW := hide HF.out
    clear HF
    go_wp2
    go_meet
    case rel => exact ⟨rfl, rfl, HW.out⟩
  case rest =>
    obtain ⟨rfl, rfl, hb⟩ := hcut
    replace IX0 := hide (IX0.out.step hb)
    replace IX1 := hide (IX1.out.step hb)
    replace HT := hide (HT.out.below hb)
    replace XX := hide (XX.out.step hb)
    replace YX := hide (YX.out.step hb)
    replace HB := hide (HB.out.trans (hb.mono HB.out.size))
    clear hb
    generalize hwc : wc = w9 at *
    clear hwc
    go_upto_region 7 with fail
    have b1 := below_alloc w9 (.cells #[.int .i64 0, .int .i64 0, .int .i64 0, .int .i64 0, .int .i64 0] 24)
    have b2 := below_alloc (w9.alloc (.cells #[.int .i64 0, .int .i64 0, .int .i64 0, .int .i64 0, .int .i64 0] 24)) (.cells #[.int .i64 0, .int .i64 0, .int .i64 0, .int .i64 0, .int .i64 0] 24)
    have UX : Hid (Box5 ((w9.alloc (.cells #[.int .i64 0, .int .i64 0, .int .i64 0, .int .i64 0, .int .i64 0] 24)).alloc (.cells #[.int .i64 0, .int .i64 0, .int .i64 0, .int .i64 0, .int .i64 0] 24)) w9.heap.size 24 ⟨0, 0, 0, 0, 0⟩) := hide ((Box5.new w9 24 ⟨0, 0, 0, 0, 0⟩).step b2)
    have VX := Box5.new (w9.alloc (.cells #[.int .i64 0, .int .i64 0, .int .i64 0, .int .i64 0, .int .i64 0] 24)) 24 ⟨0, 0, 0, 0, 0⟩
    simp only [World.size_alloc] at VX
    replace VX : Hid (Box5 ((w9.alloc (.cells #[.int .i64 0, .int .i64 0, .int .i64 0, .int .i64 0, .int .i64 0] 24)).alloc (.cells #[.int .i64 0, .int .i64 0, .int .i64 0, .int .i64 0, .int .i64 0] 24)) (w9.heap.size + 1) 24 ⟨0, 0, 0, 0, 0⟩) := hide VX
    have GU := hide HB.out.size
    have L0 := hide IX0.out.lt
    have L1 := hide IX1.out.lt
    have L2 := hide XX.out.lt
    have L3 := hide YX.out.lt
    replace IX0 := hide (IX0.out.step b1)
    replace IX1 := hide (IX1.out.step b1)
    replace HT := hide (HT.out.below b1)
    replace XX := hide (XX.out.step b1)
    replace YX := hide (YX.out.step b1)
    replace HB := hide (HB.out.trans (b1.mono HB.out.size))
    replace IX0 := hide (IX0.out.step b2)
    replace IX1 := hide (IX1.out.step b2)
    replace HT := hide (HT.out.below b2)
    replace XX := hide (XX.out.step b2)
    replace YX := hide (YX.out.step b2)
    replace HB := hide (HB.out.trans (b2.mono HB.out.size))
    clear b1 b2
    generalize (w9.alloc (.cells #[.int .i64 0, .int .i64 0, .int .i64 0, .int .i64 0, .int .i64 0] 24)).alloc (.cells #[.int .i64 0, .int .i64 0, .int .i64 0, .int .i64 0, .int .i64 0] 24) = w10 at *
    obtain ⟨U, hU⟩ : ∃ U, U = w9.heap.size := ⟨_, rfl⟩
    rw [← hU] at UX VX L0 L1 L2 L3 GU ⊢
    clear hU HT
    rcases QI.out with ⟨rfl, rfl, rfl⟩ | ⟨rfl, rfl, rfl⟩ | ⟨rfl, hX, rfl⟩
    · skip
      go_upto_region 9 with fail
      rcases QJ.out with ⟨rfl, rfl, rfl⟩ | ⟨rfl, rfl, rfl⟩ | ⟨rfl, hY, rfl⟩
      · skip
        go_upto_region 11 with fail
        have hM := MN.out (.inl (.inl (by first | rfl | trivial)))
        subst hM
        have a0 := IX0.out.cells.cell0
        have a1 := IX0.out.cells.cell1
        have a2 := IX0.out.cells.cell2
        have a3 := IX0.out.cells.cell3
        have a4 := IX0.out.cells.cell4
        simp only [Nat.zero_add] at a1 a2 a3 a4
        have b0 := IX1.out.cells.cell0
        have b1 := IX1.out.cells.cell1
        have b2 := IX1.out.cells.cell2
        have b3 := IX1.out.cells.cell3
        have b4 := IX1.out.cells.cell4
        simp only [Nat.zero_add] at b1 b2 b3 b4
        have c0 := XX.out.cells.cell0
        have c1 := XX.out.cells.cell1
        have c2 := XX.out.cells.cell2
        have c3 := XX.out.cells.cell3
        have c4 := XX.out.cells.cell4
        simp only [Nat.zero_add] at c1 c2 c3 c4
        have d0 := YX.out.cells.cell0
        have d1 := YX.out.cells.cell1
        have d2 := YX.out.cells.cell2
        have d3 := YX.out.cells.cell3
        have d4 := YX.out.cells.cell4
        simp only [Nat.zero_add] at d1 d2 d3 d4
        have u0 := UX.out.cells.cell0
        have u1 := UX.out.cells.cell1
        have u2 := UX.out.cells.cell2
        have u3 := UX.out.cells.cell3
        have u4 := UX.out.cells.cell4
        simp only [Nat.zero_add] at u1 u2 u3 u4
        have v0 := VX.out.cells.cell0
        have v1 := VX.out.cells.cell1
        have v2 := VX.out.cells.cell2
        have v3 := VX.out.cells.cell3
        have v4 := VX.out.cells.cell4
        simp only [Nat.zero_add] at v1 v2 v3 v4
        go_wp2_with fail
        refine (MM.out _ (HT0.out.below HB.out)).mono ?_
        rintro e w20 ⟨rfl, hb⟩
        replace IX0 := hide (IX0.out.step hb)
        replace IX1 := hide (IX1.out.step hb)
        replace XX := hide (XX.out.step hb)
        replace YX := hide (YX.out.step hb)
        replace UX := hide (UX.out.step hb)
        replace VX := hide (VX.out.step hb)
        replace HB := hide (HB.out.trans (hb.mono HB.out.size))
        clear hb
        clear a0 a1 a2 a3 a4 b0 b1 b2 b3 b4 c0 c1 c2 c3 c4 d0 d1 d2 d3 d4 u0 u1 u2 u3 u4 v0 v1 v2 v3 v4
        unfold mlE mlV
        dsimp only [Option.getD_none, Option.isSome_none]
        go_upto_region 14 with fail
        have hb := below_alloc w20 (.cells #[.int .i64 0, .int .i64 0, .int .i64 0, .int .i64 0, .int .i64 0] 24)
        have GX : Hid (Box5 (w20.alloc (.cells #[.int .i64 0, .int .i64 0, .int .i64 0, .int .i64 0, .int .i64 0] 24)) w20.heap.size 24 ⟨0, 0, 0, 0, 0⟩) := hide (Box5.new w20 24 ⟨0, 0, 0, 0, 0⟩)
        replace IX0 := hide (IX0.out.step hb)
        replace IX1 := hide (IX1.out.step hb)
        replace XX := hide (XX.out.step hb)
        replace YX := hide (YX.out.step hb)
        replace UX := hide (UX.out.step hb)
        replace VX := hide (VX.out.step hb)
        replace HB := hide (HB.out.trans (hb.mono HB.out.size))
        clear hb
        generalize w20.alloc (.cells #[.int .i64 0, .int .i64 0, .int .i64 0, .int .i64 0, .int .i64 0] 24) = w21 at *
        generalize w20.heap.size = BG at *
        have a0 := IX0.out.cells.cell0
        have a1 := IX0.out.cells.cell1
        have a2 := IX0.out.cells.cell2
        have a3 := IX0.out.cells.cell3
        have a4 := IX0.out.cells.cell4
        simp only [Nat.zero_add] at a1 a2 a3 a4
        have b0 := IX1.out.cells.cell0
        have b1 := IX1.out.cells.cell1
        have b2 := IX1.out.cells.cell2
        have b3 := IX1.out.cells.cell3
        have b4 := IX1.out.cells.cell4
        simp only [Nat.zero_add] at b1 b2 b3 b4
        have c0 := XX.out.cells.cell0
        have c1 := XX.out.cells.cell1
        have c2 := XX.out.cells.cell2
        have c3 := XX.out.cells.cell3
        have c4 := XX.out.cells.cell4
        simp only [Nat.zero_add] at c1 c2 c3 c4
        have d0 := YX.out.cells.cell0
        have d1 := YX.out.cells.cell1
        have d2 := YX.out.cells.cell2
        have d3 := YX.out.cells.cell3
        have d4 := YX.out.cells.cell4
        simp only [Nat.zero_add] at d1 d2 d3 d4
        have u0 := UX.out.cells.cell0
        have u1 := UX.out.cells.cell1
        have u2 := UX.out.cells.cell2
        have u3 := UX.out.cells.cell3
        have u4 := UX.out.cells.cell4
        simp only [Nat.zero_add] at u1 u2 u3 u4
        have v0 := VX.out.cells.cell0
        have v1 := VX.out.cells.cell1
        have v2 := VX.out.cells.cell2
        have v3 := VX.out.cells.cell3
        have v4 := VX.out.cells.cell4
        simp only [Nat.zero_add] at v1 v2 v3 v4
        have g0 := GX.out.cells.cell0
        have g1 := GX.out.cells.cell1
        have g2 := GX.out.cells.cell2
        have g3 := GX.out.cells.cell3
        have g4 := GX.out.cells.cell4
        simp only [Nat.zero_add] at g1 g2 g3 g4
        go_wp2
        go_ret
        exact ⟨by first | rfl | simp, HB.out⟩
      · skip
        have k0 := IX1.out.cells.cell0
        have k1 := IX1.out.cells.cell1
        have k2 := IX1.out.cells.cell2
        have k3 := IX1.out.cells.cell3
        have k4 := IX1.out.cells.cell4
        simp only [Nat.zero_add] at k1 k2 k3 k4
        go_wp2_with fail
        refine (PJ.out (by first | rfl | trivial) _).mono ?_
        rintro e w10a ⟨rfl, hb⟩
        replace IX0 := hide (IX0.out.step hb)
        replace IX1 := hide (IX1.out.step hb)
        replace XX := hide (XX.out.step hb)
        replace YX := hide (YX.out.step hb)
        replace UX := hide (UX.out.step hb)
        replace VX := hide (VX.out.step hb)
        replace HB := hide (HB.out.trans (hb.mono HB.out.size))
        clear hb k0 k1 k2 k3 k4
        have q0 := VX.out.cells.cell0
        have q1 := VX.out.cells.cell1
        have q2 := VX.out.cells.cell2
        have q3 := VX.out.cells.cell3
        have q4 := VX.out.cells.cell4
        simp only [Nat.zero_add] at q1 q2 q3 q4
        have f0 := VX.out.free 0
        have f1 := VX.out.free 1
        have f2 := VX.out.free 2
        have f3 := VX.out.free 3
        have f4 := VX.out.free 4
        go_upto_region 11 with fail
        clear q0 q1 q2 q3 q4 f0 f1 f2 f3 f4
        replace IX0 := hide (IX0.out.other5 (C := (U + 1)) (by have := L0.out; have := L1.out; have := L2.out; have := L3.out; omega) (.int .i64 bo) (.int .i64 t2) (.int .i64 ba) (.int .i64 bb) (.int .i64 bc))
        replace IX1 := hide (IX1.out.other5 (C := (U + 1)) (by have := L0.out; have := L1.out; have := L2.out; have := L3.out; omega) (.int .i64 bo) (.int .i64 t2) (.int .i64 ba) (.int .i64 bb) (.int .i64 bc))
        replace XX := hide (XX.out.other5 (C := (U + 1)) (by have := L0.out; have := L1.out; have := L2.out; have := L3.out; omega) (.int .i64 bo) (.int .i64 t2) (.int .i64 ba) (.int .i64 bb) (.int .i64 bc))
        replace YX := hide (YX.out.other5 (C := (U + 1)) (by have := L0.out; have := L1.out; have := L2.out; have := L3.out; omega) (.int .i64 bo) (.int .i64 t2) (.int .i64 ba) (.int .i64 bb) (.int .i64 bc))
        replace UX := hide (UX.out.other5 (C := (U + 1)) (by have := L0.out; have := L1.out; have := L2.out; have := L3.out; omega) (.int .i64 bo) (.int .i64 t2) (.int .i64 ba) (.int .i64 bb) (.int .i64 bc))
        replace VX := hide (VX.out.put ⟨bo, t2, ba, bb, bc⟩)
        replace HB := hide (below_put5 HB.out (show w.heap.size ≤ (U + 1) by have := GU.out; omega) (.int .i64 bo) (.int .i64 t2) (.int .i64 ba) (.int .i64 bb) (.int .i64 bc))
        generalize (((((w10a.setCell ⟨U + 1, 0, none⟩ (.int .i64 bo)).setCell ⟨U + 1, 1, none⟩ (.int .i64 t2)).setCell ⟨U + 1, 2, none⟩ (.int .i64 ba)).setCell ⟨U + 1, 3, none⟩ (.int .i64 bb)).setCell ⟨U + 1, 4, none⟩ (.int .i64 bc)) = w10b at *
        have hM := MN.out (.inl (.inl (by first | rfl | trivial)))
        subst hM
        have a0 := IX0.out.cells.cell0
        have a1 := IX0.out.cells.cell1
        have a2 := IX0.out.cells.cell2
        have a3 := IX0.out.cells.cell3
        have a4 := IX0.out.cells.cell4
        simp only [Nat.zero_add] at a1 a2 a3 a4
        have b0 := IX1.out.cells.cell0
        have b1 := IX1.out.cells.cell1
        have b2 := IX1.out.cells.cell2
        have b3 := IX1.out.cells.cell3
        have b4 := IX1.out.cells.cell4
        simp only [Nat.zero_add] at b1 b2 b3 b4
        have c0 := XX.out.cells.cell0
        have c1 := XX.out.cells.cell1
        have c2 := XX.out.cells.cell2
        have c3 := XX.out.cells.cell3
        have c4 := XX.out.cells.cell4
        simp only [Nat.zero_add] at c1 c2 c3 c4
        have d0 := YX.out.cells.cell0
        have d1 := YX.out.cells.cell1
        have d2 := YX.out.cells.cell2
        have d3 := YX.out.cells.cell3
        have d4 := YX.out.cells.cell4
        simp only [Nat.zero_add] at d1 d2 d3 d4
        have u0 := UX.out.cells.cell0
        have u1 := UX.out.cells.cell1
        have u2 := UX.out.cells.cell2
        have u3 := UX.out.cells.cell3
        have u4 := UX.out.cells.cell4
        simp only [Nat.zero_add] at u1 u2 u3 u4
        have v0 := VX.out.cells.cell0
        have v1 := VX.out.cells.cell1
        have v2 := VX.out.cells.cell2
        have v3 := VX.out.cells.cell3
        have v4 := VX.out.cells.cell4
        simp only [Nat.zero_add] at v1 v2 v3 v4
        go_wp2_with fail
        refine (MM.out _ (HT0.out.below HB.out)).mono ?_
        rintro e w20 ⟨rfl, hb⟩
        replace IX0 := hide (IX0.out.step hb)
        replace IX1 := hide (IX1.out.step hb)
        replace XX := hide (XX.out.step hb)
        replace YX := hide (YX.out.step hb)
        replace UX := hide (UX.out.step hb)
        replace VX := hide (VX.out.step hb)
        replace HB := hide (HB.out.trans (hb.mono HB.out.size))
        clear hb
        clear a0 a1 a2 a3 a4 b0 b1 b2 b3 b4 c0 c1 c2 c3 c4 d0 d1 d2 d3 d4 u0 u1 u2 u3 u4 v0 v1 v2 v3 v4
        unfold mlE mlV
        dsimp only [Option.getD_none, Option.isSome_none]
        go_upto_region 14 with fail
        have hb := below_alloc w20 (.cells #[.int .i64 0, .int .i64 0, .int .i64 0, .int .i64 0, .int .i64 0] 24)
        have GX : Hid (Box5 (w20.alloc (.cells #[.int .i64 0, .int .i64 0, .int .i64 0, .int .i64 0, .int .i64 0] 24)) w20.heap.size 24 ⟨0, 0, 0, 0, 0⟩) := hide (Box5.new w20 24 ⟨0, 0, 0, 0, 0⟩)
        replace IX0 := hide (IX0.out.step hb)
        replace IX1 := hide (IX1.out.step hb)
        replace XX := hide (XX.out.step hb)
        replace YX := hide (YX.out.step hb)
        replace UX := hide (UX.out.step hb)
        replace VX := hide (VX.out.step hb)
        replace HB := hide (HB.out.trans (hb.mono HB.out.size))
        clear hb
        generalize w20.alloc (.cells #[.int .i64 0, .int .i64 0, .int .i64 0, .int .i64 0, .int .i64 0] 24) = w21 at *
        generalize w20.heap.size = BG at *
        have a0 := IX0.out.cells.cell0
        have a1 := IX0.out.cells.cell1
        have a2 := IX0.out.cells.cell2
        have a3 := IX0.out.cells.cell3
        have a4 := IX0.out.cells.cell4
        simp only [Nat.zero_add] at a1 a2 a3 a4
        have b0 := IX1.out.cells.cell0
        have b1 := IX1.out.cells.cell1
        have b2 := IX1.out.cells.cell2
        have b3 := IX1.out.cells.cell3
        have b4 := IX1.out.cells.cell4
        simp only [Nat.zero_add] at b1 b2 b3 b4
        have c0 := XX.out.cells.cell0
        have c1 := XX.out.cells.cell1
        have c2 := XX.out.cells.cell2
        have c3 := XX.out.cells.cell3
        have c4 := XX.out.cells.cell4
        simp only [Nat.zero_add] at c1 c2 c3 c4
        have d0 := YX.out.cells.cell0
        have d1 := YX.out.cells.cell1
        have d2 := YX.out.cells.cell2
        have d3 := YX.out.cells.cell3
        have d4 := YX.out.cells.cell4
        simp only [Nat.zero_add] at d1 d2 d3 d4
        have u0 := UX.out.cells.cell0
        have u1 := UX.out.cells.cell1
        have u2 := UX.out.cells.cell2
        have u3 := UX.out.cells.cell3
        have u4 := UX.out.cells.cell4
        simp only [Nat.zero_add] at u1 u2 u3 u4
        have v0 := VX.out.cells.cell0
        have v1 := VX.out.cells.cell1
        have v2 := VX.out.cells.cell2
        have v3 := VX.out.cells.cell3
        have v4 := VX.out.cells.cell4
        simp only [Nat.zero_add] at v1 v2 v3 v4
        have g0 := GX.out.cells.cell0
        have g1 := GX.out.cells.cell1
        have g2 := GX.out.cells.cell2
        have g3 := GX.out.cells.cell3
        have g4 := GX.out.cells.cell4
        simp only [Nat.zero_add] at g1 g2 g3 g4
        go_wp2
        go_ret
        exact ⟨by first | rfl | simp, HB.out⟩
      · skip
        have k0 := IX1.out.cells.cell0
        have k1 := IX1.out.cells.cell1
        have k2 := IX1.out.cells.cell2
        have k3 := IX1.out.cells.cell3
        have k4 := IX1.out.cells.cell4
        simp only [Nat.zero_add] at k1 k2 k3 k4
        go_wp2_with fail
        refine (PJ.out (by first | rfl | trivial) _).mono ?_
        rintro e w10a ⟨rfl, hb⟩
        replace IX0 := hide (IX0.out.step hb)
        replace IX1 := hide (IX1.out.step hb)
        replace XX := hide (XX.out.step hb)
        replace YX := hide (YX.out.step hb)
        replace UX := hide (UX.out.step hb)
        replace VX := hide (VX.out.step hb)
        replace HB := hide (HB.out.trans (hb.mono HB.out.size))
        clear hb k0 k1 k2 k3 k4
        have q0 := VX.out.cells.cell0
        have q1 := VX.out.cells.cell1
        have q2 := VX.out.cells.cell2
        have q3 := VX.out.cells.cell3
        have q4 := VX.out.cells.cell4
        simp only [Nat.zero_add] at q1 q2 q3 q4
        have f0 := VX.out.free 0
        have f1 := VX.out.free 1
        have f2 := VX.out.free 2
        have f3 := VX.out.free 3
        have f4 := VX.out.free 4
        go_upto_region 11 with fail
        clear q0 q1 q2 q3 q4 f0 f1 f2 f3 f4
        replace IX0 := hide (IX0.out.other5 (C := (U + 1)) (by have := L0.out; have := L1.out; have := L2.out; have := L3.out; omega) (.int .i64 Y.op) (.int .i64 Y.to) (.int .i64 Y.a) (.int .i64 Y.b) (.int .i64 Y.c))
        replace IX1 := hide (IX1.out.other5 (C := (U + 1)) (by have := L0.out; have := L1.out; have := L2.out; have := L3.out; omega) (.int .i64 Y.op) (.int .i64 Y.to) (.int .i64 Y.a) (.int .i64 Y.b) (.int .i64 Y.c))
        replace XX := hide (XX.out.other5 (C := (U + 1)) (by have := L0.out; have := L1.out; have := L2.out; have := L3.out; omega) (.int .i64 Y.op) (.int .i64 Y.to) (.int .i64 Y.a) (.int .i64 Y.b) (.int .i64 Y.c))
        replace YX := hide (YX.out.other5 (C := (U + 1)) (by have := L0.out; have := L1.out; have := L2.out; have := L3.out; omega) (.int .i64 Y.op) (.int .i64 Y.to) (.int .i64 Y.a) (.int .i64 Y.b) (.int .i64 Y.c))
        replace UX := hide (UX.out.other5 (C := (U + 1)) (by have := L0.out; have := L1.out; have := L2.out; have := L3.out; omega) (.int .i64 Y.op) (.int .i64 Y.to) (.int .i64 Y.a) (.int .i64 Y.b) (.int .i64 Y.c))
        replace VX := hide (VX.out.put Y)
        replace HB := hide (below_put5 HB.out (show w.heap.size ≤ (U + 1) by have := GU.out; omega) (.int .i64 Y.op) (.int .i64 Y.to) (.int .i64 Y.a) (.int .i64 Y.b) (.int .i64 Y.c))
        generalize (((((w10a.setCell ⟨U + 1, 0, none⟩ (.int .i64 Y.op)).setCell ⟨U + 1, 1, none⟩ (.int .i64 Y.to)).setCell ⟨U + 1, 2, none⟩ (.int .i64 Y.a)).setCell ⟨U + 1, 3, none⟩ (.int .i64 Y.b)).setCell ⟨U + 1, 4, none⟩ (.int .i64 Y.c)) = w10b at *
        have hnj := fun u => neq_yes Y ⟨bo, t2, ba, bb, bc⟩ hY u
        dsimp only at hnj
        have hM := MN.out (.inl (.inl (by first | rfl | trivial)))
        subst hM
        have a0 := IX0.out.cells.cell0
        have a1 := IX0.out.cells.cell1
        have a2 := IX0.out.cells.cell2
        have a3 := IX0.out.cells.cell3
        have a4 := IX0.out.cells.cell4
        simp only [Nat.zero_add] at a1 a2 a3 a4
        have b0 := IX1.out.cells.cell0
        have b1 := IX1.out.cells.cell1
        have b2 := IX1.out.cells.cell2
        have b3 := IX1.out.cells.cell3
        have b4 := IX1.out.cells.cell4
        simp only [Nat.zero_add] at b1 b2 b3 b4
        have c0 := XX.out.cells.cell0
        have c1 := XX.out.cells.cell1
        have c2 := XX.out.cells.cell2
        have c3 := XX.out.cells.cell3
        have c4 := XX.out.cells.cell4
        simp only [Nat.zero_add] at c1 c2 c3 c4
        have d0 := YX.out.cells.cell0
        have d1 := YX.out.cells.cell1
        have d2 := YX.out.cells.cell2
        have d3 := YX.out.cells.cell3
        have d4 := YX.out.cells.cell4
        simp only [Nat.zero_add] at d1 d2 d3 d4
        have u0 := UX.out.cells.cell0
        have u1 := UX.out.cells.cell1
        have u2 := UX.out.cells.cell2
        have u3 := UX.out.cells.cell3
        have u4 := UX.out.cells.cell4
        simp only [Nat.zero_add] at u1 u2 u3 u4
        have v0 := VX.out.cells.cell0
        have v1 := VX.out.cells.cell1
        have v2 := VX.out.cells.cell2
        have v3 := VX.out.cells.cell3
        have v4 := VX.out.cells.cell4
        simp only [Nat.zero_add] at v1 v2 v3 v4
        go_wp2_with fail
        refine (MM.out _ (HT0.out.below HB.out)).mono ?_
        rintro e w20 ⟨rfl, hb⟩
        replace IX0 := hide (IX0.out.step hb)
        replace IX1 := hide (IX1.out.step hb)
        replace XX := hide (XX.out.step hb)
        replace YX := hide (YX.out.step hb)
        replace UX := hide (UX.out.step hb)
        replace VX := hide (VX.out.step hb)
        replace HB := hide (HB.out.trans (hb.mono HB.out.size))
        clear hb
        clear a0 a1 a2 a3 a4 b0 b1 b2 b3 b4 c0 c1 c2 c3 c4 d0 d1 d2 d3 d4 u0 u1 u2 u3 u4 v0 v1 v2 v3 v4
        unfold mlE mlV
        dsimp only [Option.getD_none, Option.isSome_none]
        go_upto_region 14 with fail
        have hb := below_alloc w20 (.cells #[.int .i64 0, .int .i64 0, .int .i64 0, .int .i64 0, .int .i64 0] 24)
        have GX : Hid (Box5 (w20.alloc (.cells #[.int .i64 0, .int .i64 0, .int .i64 0, .int .i64 0, .int .i64 0] 24)) w20.heap.size 24 ⟨0, 0, 0, 0, 0⟩) := hide (Box5.new w20 24 ⟨0, 0, 0, 0, 0⟩)
        replace IX0 := hide (IX0.out.step hb)
        replace IX1 := hide (IX1.out.step hb)
        replace XX := hide (XX.out.step hb)
        replace YX := hide (YX.out.step hb)
        replace UX := hide (UX.out.step hb)
        replace VX := hide (VX.out.step hb)
        replace HB := hide (HB.out.trans (hb.mono HB.out.size))
        clear hb
        generalize w20.alloc (.cells #[.int .i64 0, .int .i64 0, .int .i64 0, .int .i64 0, .int .i64 0] 24) = w21 at *
        generalize w20.heap.size = BG at *
        have a0 := IX0.out.cells.cell0
        have a1 := IX0.out.cells.cell1
        have a2 := IX0.out.cells.cell2
        have a3 := IX0.out.cells.cell3
        have a4 := IX0.out.cells.cell4
        simp only [Nat.zero_add] at a1 a2 a3 a4
        have b0 := IX1.out.cells.cell0
        have b1 := IX1.out.cells.cell1
        have b2 := IX1.out.cells.cell2
        have b3 := IX1.out.cells.cell3
        have b4 := IX1.out.cells.cell4
        simp only [Nat.zero_add] at b1 b2 b3 b4
        have c0 := XX.out.cells.cell0
        have c1 := XX.out.cells.cell1
        have c2 := XX.out.cells.cell2
        have c3 := XX.out.cells.cell3
        have c4 := XX.out.cells.cell4
        simp only [Nat.zero_add] at c1 c2 c3 c4
        have d0 := YX.out.cells.cell0
        have d1 := YX.out.cells.cell1
        have d2 := YX.out.cells.cell2
        have d3 := YX.out.cells.cell3
        have d4 := YX.out.cells.cell4
        simp only [Nat.zero_add] at d1 d2 d3 d4
        have u0 := UX.out.cells.cell0
        have u1 := UX.out.cells.cell1
        have u2 := UX.out.cells.cell2
        have u3 := UX.out.cells.cell3
        have u4 := UX.out.cells.cell4
        simp only [Nat.zero_add] at u1 u2 u3 u4
        have v0 := VX.out.cells.cell0
        have v1 := VX.out.cells.cell1
        have v2 := VX.out.cells.cell2
        have v3 := VX.out.cells.cell3
        have v4 := VX.out.cells.cell4
        simp only [Nat.zero_add] at v1 v2 v3 v4
        have g0 := GX.out.cells.cell0
        have g1 := GX.out.cells.cell1
        have g2 := GX.out.cells.cell2
        have g3 := GX.out.cells.cell3
        have g4 := GX.out.cells.cell4
        simp only [Nat.zero_add] at g1 g2 g3 g4
        go_wp2
        go_ret
        exact ⟨by first | rfl | simp, HB.out⟩
    · skip
      have k0 := IX0.out.cells.cell0
      have k1 := IX0.out.cells.cell1
      have k2 := IX0.out.cells.cell2
      have k3 := IX0.out.cells.cell3
      have k4 := IX0.out.cells.cell4
      simp only [Nat.zero_add] at k1 k2 k3 k4
      go_wp2_with fail
      refine (PI.out (by first | rfl | trivial) _).mono ?_
      rintro e w10a ⟨rfl, hb⟩
      replace IX0 := hide (IX0.out.step hb)
      replace IX1 := hide (IX1.out.step hb)
      replace XX := hide (XX.out.step hb)
      replace YX := hide (YX.out.step hb)
      replace UX := hide (UX.out.step hb)
      replace VX := hide (VX.out.step hb)
      replace HB := hide (HB.out.trans (hb.mono HB.out.size))
      clear hb k0 k1 k2 k3 k4
      have q0 := UX.out.cells.cell0
      have q1 := UX.out.cells.cell1
      have q2 := UX.out.cells.cell2
      have q3 := UX.out.cells.cell3
      have q4 := UX.out.cells.cell4
      simp only [Nat.zero_add] at q1 q2 q3 q4
      have f0 := UX.out.free 0
      have f1 := UX.out.free 1
      have f2 := UX.out.free 2
      have f3 := UX.out.free 3
      have f4 := UX.out.free 4
      go_upto_region 9 with fail
      clear q0 q1 q2 q3 q4 f0 f1 f2 f3 f4
      replace IX0 := hide (IX0.out.other5 (C := U) (by have := L0.out; have := L1.out; have := L2.out; have := L3.out; omega) (.int .i64 ao) (.int .i64 t1) (.int .i64 aa) (.int .i64 ab) (.int .i64 ac))
      replace IX1 := hide (IX1.out.other5 (C := U) (by have := L0.out; have := L1.out; have := L2.out; have := L3.out; omega) (.int .i64 ao) (.int .i64 t1) (.int .i64 aa) (.int .i64 ab) (.int .i64 ac))
      replace XX := hide (XX.out.other5 (C := U) (by have := L0.out; have := L1.out; have := L2.out; have := L3.out; omega) (.int .i64 ao) (.int .i64 t1) (.int .i64 aa) (.int .i64 ab) (.int .i64 ac))
      replace YX := hide (YX.out.other5 (C := U) (by have := L0.out; have := L1.out; have := L2.out; have := L3.out; omega) (.int .i64 ao) (.int .i64 t1) (.int .i64 aa) (.int .i64 ab) (.int .i64 ac))
      replace UX := hide (UX.out.put ⟨ao, t1, aa, ab, ac⟩)
      replace VX := hide (VX.out.other5 (C := U) (by have := L0.out; have := L1.out; have := L2.out; have := L3.out; omega) (.int .i64 ao) (.int .i64 t1) (.int .i64 aa) (.int .i64 ab) (.int .i64 ac))
      replace HB := hide (below_put5 HB.out (show w.heap.size ≤ U by have := GU.out; omega) (.int .i64 ao) (.int .i64 t1) (.int .i64 aa) (.int .i64 ab) (.int .i64 ac))
      generalize (((((w10a.setCell ⟨U, 0, none⟩ (.int .i64 ao)).setCell ⟨U, 1, none⟩ (.int .i64 t1)).setCell ⟨U, 2, none⟩ (.int .i64 aa)).setCell ⟨U, 3, none⟩ (.int .i64 ab)).setCell ⟨U, 4, none⟩ (.int .i64 ac)) = w10b at *
      rcases QJ.out with ⟨rfl, rfl, rfl⟩ | ⟨rfl, rfl, rfl⟩ | ⟨rfl, hY, rfl⟩
      · skip
        go_upto_region 11 with fail
        have hM := MN.out (.inr (.inl (by first | rfl | trivial)))
        subst hM
        have a0 := IX0.out.cells.cell0
        have a1 := IX0.out.cells.cell1
        have a2 := IX0.out.cells.cell2
        have a3 := IX0.out.cells.cell3
        have a4 := IX0.out.cells.cell4
        simp only [Nat.zero_add] at a1 a2 a3 a4
        have b0 := IX1.out.cells.cell0
        have b1 := IX1.out.cells.cell1
        have b2 := IX1.out.cells.cell2
        have b3 := IX1.out.cells.cell3
        have b4 := IX1.out.cells.cell4
        simp only [Nat.zero_add] at b1 b2 b3 b4
        have c0 := XX.out.cells.cell0
        have c1 := XX.out.cells.cell1
        have c2 := XX.out.cells.cell2
        have c3 := XX.out.cells.cell3
        have c4 := XX.out.cells.cell4
        simp only [Nat.zero_add] at c1 c2 c3 c4
        have d0 := YX.out.cells.cell0
        have d1 := YX.out.cells.cell1
        have d2 := YX.out.cells.cell2
        have d3 := YX.out.cells.cell3
        have d4 := YX.out.cells.cell4
        simp only [Nat.zero_add] at d1 d2 d3 d4
        have u0 := UX.out.cells.cell0
        have u1 := UX.out.cells.cell1
        have u2 := UX.out.cells.cell2
        have u3 := UX.out.cells.cell3
        have u4 := UX.out.cells.cell4
        simp only [Nat.zero_add] at u1 u2 u3 u4
        have v0 := VX.out.cells.cell0
        have v1 := VX.out.cells.cell1
        have v2 := VX.out.cells.cell2
        have v3 := VX.out.cells.cell3
        have v4 := VX.out.cells.cell4
        simp only [Nat.zero_add] at v1 v2 v3 v4
        go_wp2_with fail
        refine (MM.out _ (HT0.out.below HB.out)).mono ?_
        rintro e w20 ⟨rfl, hb⟩
        replace IX0 := hide (IX0.out.step hb)
        replace IX1 := hide (IX1.out.step hb)
        replace XX := hide (XX.out.step hb)
        replace YX := hide (YX.out.step hb)
        replace UX := hide (UX.out.step hb)
        replace VX := hide (VX.out.step hb)
        replace HB := hide (HB.out.trans (hb.mono HB.out.size))
        clear hb
        clear a0 a1 a2 a3 a4 b0 b1 b2 b3 b4 c0 c1 c2 c3 c4 d0 d1 d2 d3 d4 u0 u1 u2 u3 u4 v0 v1 v2 v3 v4
        unfold mlE mlV
        dsimp only [Option.getD_none, Option.isSome_none]
        go_upto_region 14 with fail
        have hb := below_alloc w20 (.cells #[.int .i64 0, .int .i64 0, .int .i64 0, .int .i64 0, .int .i64 0] 24)
        have GX : Hid (Box5 (w20.alloc (.cells #[.int .i64 0, .int .i64 0, .int .i64 0, .int .i64 0, .int .i64 0] 24)) w20.heap.size 24 ⟨0, 0, 0, 0, 0⟩) := hide (Box5.new w20 24 ⟨0, 0, 0, 0, 0⟩)
        replace IX0 := hide (IX0.out.step hb)
        replace IX1 := hide (IX1.out.step hb)
        replace XX := hide (XX.out.step hb)
        replace YX := hide (YX.out.step hb)
        replace UX := hide (UX.out.step hb)
        replace VX := hide (VX.out.step hb)
        replace HB := hide (HB.out.trans (hb.mono HB.out.size))
        clear hb
        generalize w20.alloc (.cells #[.int .i64 0, .int .i64 0, .int .i64 0, .int .i64 0, .int .i64 0] 24) = w21 at *
        generalize w20.heap.size = BG at *
        have a0 := IX0.out.cells.cell0
        have a1 := IX0.out.cells.cell1
        have a2 := IX0.out.cells.cell2
        have a3 := IX0.out.cells.cell3
        have a4 := IX0.out.cells.cell4
        simp only [Nat.zero_add] at a1 a2 a3 a4
        have b0 := IX1.out.cells.cell0
        have b1 := IX1.out.cells.cell1
        have b2 := IX1.out.cells.cell2
        have b3 := IX1.out.cells.cell3
        have b4 := IX1.out.cells.cell4
        simp only [Nat.zero_add] at b1 b2 b3 b4
        have c0 := XX.out.cells.cell0
        have c1 := XX.out.cells.cell1
        have c2 := XX.out.cells.cell2
        have c3 := XX.out.cells.cell3
        have c4 := XX.out.cells.cell4
        simp only [Nat.zero_add] at c1 c2 c3 c4
        have d0 := YX.out.cells.cell0
        have d1 := YX.out.cells.cell1
        have d2 := YX.out.cells.cell2
        have d3 := YX.out.cells.cell3
        have d4 := YX.out.cells.cell4
        simp only [Nat.zero_add] at d1 d2 d3 d4
        have u0 := UX.out.cells.cell0
        have u1 := UX.out.cells.cell1
        have u2 := UX.out.cells.cell2
        have u3 := UX.out.cells.cell3
        have u4 := UX.out.cells.cell4
        simp only [Nat.zero_add] at u1 u2 u3 u4
        have v0 := VX.out.cells.cell0
        have v1 := VX.out.cells.cell1
        have v2 := VX.out.cells.cell2
        have v3 := VX.out.cells.cell3
        have v4 := VX.out.cells.cell4
        simp only [Nat.zero_add] at v1 v2 v3 v4
        have g0 := GX.out.cells.cell0
        have g1 := GX.out.cells.cell1
        have g2 := GX.out.cells.cell2
        have g3 := GX.out.cells.cell3
        have g4 := GX.out.cells.cell4
        simp only [Nat.zero_add] at g1 g2 g3 g4
        go_wp2
        go_ret
        exact ⟨by first | rfl | simp, HB.out⟩
      · skip
        have k0 := IX1.out.cells.cell0
        have k1 := IX1.out.cells.cell1
        have k2 := IX1.out.cells.cell2
        have k3 := IX1.out.cells.cell3
        have k4 := IX1.out.cells.cell4
        simp only [Nat.zero_add] at k1 k2 k3 k4
        go_wp2_with fail
        refine (PJ.out (by first | rfl | trivial) _).mono ?_
        rintro e w10ba ⟨rfl, hb⟩
        replace IX0 := hide (IX0.out.step hb)
        replace IX1 := hide (IX1.out.step hb)
        replace XX := hide (XX.out.step hb)
        replace YX := hide (YX.out.step hb)
        replace UX := hide (UX.out.step hb)
        replace VX := hide (VX.out.step hb)
        replace HB := hide (HB.out.trans (hb.mono HB.out.size))
        clear hb k0 k1 k2 k3 k4
        have q0 := VX.out.cells.cell0
        have q1 := VX.out.cells.cell1
        have q2 := VX.out.cells.cell2
        have q3 := VX.out.cells.cell3
        have q4 := VX.out.cells.cell4
        simp only [Nat.zero_add] at q1 q2 q3 q4
        have f0 := VX.out.free 0
        have f1 := VX.out.free 1
        have f2 := VX.out.free 2
        have f3 := VX.out.free 3
        have f4 := VX.out.free 4
        go_upto_region 11 with fail
        clear q0 q1 q2 q3 q4 f0 f1 f2 f3 f4
        replace IX0 := hide (IX0.out.other5 (C := (U + 1)) (by have := L0.out; have := L1.out; have := L2.out; have := L3.out; omega) (.int .i64 bo) (.int .i64 t2) (.int .i64 ba) (.int .i64 bb) (.int .i64 bc))
        replace IX1 := hide (IX1.out.other5 (C := (U + 1)) (by have := L0.out; have := L1.out; have := L2.out; have := L3.out; omega) (.int .i64 bo) (.int .i64 t2) (.int .i64 ba) (.int .i64 bb) (.int .i64 bc))
        replace XX := hide (XX.out.other5 (C := (U + 1)) (by have := L0.out; have := L1.out; have := L2.out; have := L3.out; omega) (.int .i64 bo) (.int .i64 t2) (.int .i64 ba) (.int .i64 bb) (.int .i64 bc))
        replace YX := hide (YX.out.other5 (C := (U + 1)) (by have := L0.out; have := L1.out; have := L2.out; have := L3.out; omega) (.int .i64 bo) (.int .i64 t2) (.int .i64 ba) (.int .i64 bb) (.int .i64 bc))
        replace UX := hide (UX.out.other5 (C := (U + 1)) (by have := L0.out; have := L1.out; have := L2.out; have := L3.out; omega) (.int .i64 bo) (.int .i64 t2) (.int .i64 ba) (.int .i64 bb) (.int .i64 bc))
        replace VX := hide (VX.out.put ⟨bo, t2, ba, bb, bc⟩)
        replace HB := hide (below_put5 HB.out (show w.heap.size ≤ (U + 1) by have := GU.out; omega) (.int .i64 bo) (.int .i64 t2) (.int .i64 ba) (.int .i64 bb) (.int .i64 bc))
        generalize (((((w10ba.setCell ⟨U + 1, 0, none⟩ (.int .i64 bo)).setCell ⟨U + 1, 1, none⟩ (.int .i64 t2)).setCell ⟨U + 1, 2, none⟩ (.int .i64 ba)).setCell ⟨U + 1, 3, none⟩ (.int .i64 bb)).setCell ⟨U + 1, 4, none⟩ (.int .i64 bc)) = w10bb at *
        have a0 := IX0.out.cells.cell0
        have a1 := IX0.out.cells.cell1
        have a2 := IX0.out.cells.cell2
        have a3 := IX0.out.cells.cell3
        have a4 := IX0.out.cells.cell4
        simp only [Nat.zero_add] at a1 a2 a3 a4
        have b0 := IX1.out.cells.cell0
        have b1 := IX1.out.cells.cell1
        have b2 := IX1.out.cells.cell2
        have b3 := IX1.out.cells.cell3
        have b4 := IX1.out.cells.cell4
        simp only [Nat.zero_add] at b1 b2 b3 b4
        have c0 := XX.out.cells.cell0
        have c1 := XX.out.cells.cell1
        have c2 := XX.out.cells.cell2
        have c3 := XX.out.cells.cell3
        have c4 := XX.out.cells.cell4
        simp only [Nat.zero_add] at c1 c2 c3 c4
        have d0 := YX.out.cells.cell0
        have d1 := YX.out.cells.cell1
        have d2 := YX.out.cells.cell2
        have d3 := YX.out.cells.cell3
        have d4 := YX.out.cells.cell4
        simp only [Nat.zero_add] at d1 d2 d3 d4
        have u0 := UX.out.cells.cell0
        have u1 := UX.out.cells.cell1
        have u2 := UX.out.cells.cell2
        have u3 := UX.out.cells.cell3
        have u4 := UX.out.cells.cell4
        simp only [Nat.zero_add] at u1 u2 u3 u4
        have v0 := VX.out.cells.cell0
        have v1 := VX.out.cells.cell1
        have v2 := VX.out.cells.cell2
        have v3 := VX.out.cells.cell3
        have v4 := VX.out.cells.cell4
        simp only [Nat.zero_add] at v1 v2 v3 v4
        go_wp2_with fail
        refine (MM.out _ (HT0.out.below HB.out)).mono ?_
        rintro e w20 ⟨rfl, hb⟩
        replace IX0 := hide (IX0.out.step hb)
        replace IX1 := hide (IX1.out.step hb)
        replace XX := hide (XX.out.step hb)
        replace YX := hide (YX.out.step hb)
        replace UX := hide (UX.out.step hb)
        replace VX := hide (VX.out.step hb)
        replace HB := hide (HB.out.trans (hb.mono HB.out.size))
        clear hb
        clear a0 a1 a2 a3 a4 b0 b1 b2 b3 b4 c0 c1 c2 c3 c4 d0 d1 d2 d3 d4 u0 u1 u2 u3 u4 v0 v1 v2 v3 v4
        have RM2 := hide (RM.out (by first | rfl | trivial) (by first | rfl | trivial) (by first | rfl | trivial) (by first | rfl | trivial))
        unfold mlE at RM2 ⊢
        generalize mlV M = G at *
        generalize M.isSome = ms at *
        go_upto_region 14 with fail
        have hb := below_alloc w20 (.cells #[.int .i64 G.op, .int .i64 G.to, .int .i64 G.a, .int .i64 G.b, .int .i64 G.c] 24)
        have GX : Hid (Box5 (w20.alloc (.cells #[.int .i64 G.op, .int .i64 G.to, .int .i64 G.a, .int .i64 G.b, .int .i64 G.c] 24)) w20.heap.size 24 G) := hide (Box5.new w20 24 G)
        replace IX0 := hide (IX0.out.step hb)
        replace IX1 := hide (IX1.out.step hb)
        replace XX := hide (XX.out.step hb)
        replace YX := hide (YX.out.step hb)
        replace UX := hide (UX.out.step hb)
        replace VX := hide (VX.out.step hb)
        replace HB := hide (HB.out.trans (hb.mono HB.out.size))
        clear hb
        generalize w20.alloc (.cells #[.int .i64 G.op, .int .i64 G.to, .int .i64 G.a, .int .i64 G.b, .int .i64 G.c] 24) = w21 at *
        generalize w20.heap.size = BG at *
        have a0 := IX0.out.cells.cell0
        have a1 := IX0.out.cells.cell1
        have a2 := IX0.out.cells.cell2
        have a3 := IX0.out.cells.cell3
        have a4 := IX0.out.cells.cell4
        simp only [Nat.zero_add] at a1 a2 a3 a4
        have b0 := IX1.out.cells.cell0
        have b1 := IX1.out.cells.cell1
        have b2 := IX1.out.cells.cell2
        have b3 := IX1.out.cells.cell3
        have b4 := IX1.out.cells.cell4
        simp only [Nat.zero_add] at b1 b2 b3 b4
        have c0 := XX.out.cells.cell0
        have c1 := XX.out.cells.cell1
        have c2 := XX.out.cells.cell2
        have c3 := XX.out.cells.cell3
        have c4 := XX.out.cells.cell4
        simp only [Nat.zero_add] at c1 c2 c3 c4
        have d0 := YX.out.cells.cell0
        have d1 := YX.out.cells.cell1
        have d2 := YX.out.cells.cell2
        have d3 := YX.out.cells.cell3
        have d4 := YX.out.cells.cell4
        simp only [Nat.zero_add] at d1 d2 d3 d4
        have u0 := UX.out.cells.cell0
        have u1 := UX.out.cells.cell1
        have u2 := UX.out.cells.cell2
        have u3 := UX.out.cells.cell3
        have u4 := UX.out.cells.cell4
        simp only [Nat.zero_add] at u1 u2 u3 u4
        have v0 := VX.out.cells.cell0
        have v1 := VX.out.cells.cell1
        have v2 := VX.out.cells.cell2
        have v3 := VX.out.cells.cell3
        have v4 := VX.out.cells.cell4
        simp only [Nat.zero_add] at v1 v2 v3 v4
        have g0 := GX.out.cells.cell0
        have g1 := GX.out.cells.cell1
        have g2 := GX.out.cells.cell2
        have g3 := GX.out.cells.cell3
        have g4 := GX.out.cells.cell4
        simp only [Nat.zero_add] at g1 g2 g3 g4
        go_wp2_with fail
        refine (RM2.out _).mono ?_
        rintro e w22 ⟨rfl, hb⟩
        replace IX0 := hide (IX0.out.step hb)
        replace IX1 := hide (IX1.out.step hb)
        replace XX := hide (XX.out.step hb)
        replace YX := hide (YX.out.step hb)
        replace UX := hide (UX.out.step hb)
        replace VX := hide (VX.out.step hb)
        replace GX := hide (GX.out.step hb)
        replace HB := hide (HB.out.trans (hb.mono HB.out.size))
        clear hb
        clear a0 a1 a2 a3 a4 b0 b1 b2 b3 b4 c0 c1 c2 c3 c4 d0 d1 d2 d3 d4 u0 u1 u2 u3 u4 v0 v1 v2 v3 v4 g0 g1 g2 g3 g4
        go_upto_region 17 with fail
        have hb := below_alloc w22 (.cells #[.int .i64 G.op, .int .i64 G.to, .int .i64 G.a, .int .i64 G.b, .int .i64 G.c] 24)
        have KX : Hid (Box5 (w22.alloc (.cells #[.int .i64 G.op, .int .i64 G.to, .int .i64 G.a, .int .i64 G.b, .int .i64 G.c] 24)) w22.heap.size 24 G) := hide (Box5.new w22 24 G)
        replace GX := hide (GX.out.step hb)
        replace HB := hide (HB.out.trans (hb.mono HB.out.size))
        clear hb
        generalize w22.alloc (.cells #[.int .i64 G.op, .int .i64 G.to, .int .i64 G.a, .int .i64 G.b, .int .i64 G.c] 24) = w23 at *
        generalize w22.heap.size = BK at *
        have g0 := GX.out.cells.cell0
        have g1 := GX.out.cells.cell1
        have g2 := GX.out.cells.cell2
        have g3 := GX.out.cells.cell3
        have g4 := GX.out.cells.cell4
        simp only [Nat.zero_add] at g1 g2 g3 g4
        have h0 := KX.out.cells.cell0
        have h1 := KX.out.cells.cell1
        have h2 := KX.out.cells.cell2
        have h3 := KX.out.cells.cell3
        have h4 := KX.out.cells.cell4
        simp only [Nat.zero_add] at h1 h2 h3 h4
        go_wp2
        go_ret
        exact ⟨by first | rfl | simp, HB.out⟩
      · skip
        have k0 := IX1.out.cells.cell0
        have k1 := IX1.out.cells.cell1
        have k2 := IX1.out.cells.cell2
        have k3 := IX1.out.cells.cell3
        have k4 := IX1.out.cells.cell4
        simp only [Nat.zero_add] at k1 k2 k3 k4
        go_wp2_with fail
        refine (PJ.out (by first | rfl | trivial) _).mono ?_
        rintro e w10ba ⟨rfl, hb⟩
        replace IX0 := hide (IX0.out.step hb)
        replace IX1 := hide (IX1.out.step hb)
        replace XX := hide (XX.out.step hb)
        replace YX := hide (YX.out.step hb)
        replace UX := hide (UX.out.step hb)
        replace VX := hide (VX.out.step hb)
        replace HB := hide (HB.out.trans (hb.mono HB.out.size))
        clear hb k0 k1 k2 k3 k4
        have q0 := VX.out.cells.cell0
        have q1 := VX.out.cells.cell1
        have q2 := VX.out.cells.cell2
        have q3 := VX.out.cells.cell3
        have q4 := VX.out.cells.cell4
        simp only [Nat.zero_add] at q1 q2 q3 q4
        have f0 := VX.out.free 0
        have f1 := VX.out.free 1
        have f2 := VX.out.free 2
        have f3 := VX.out.free 3
        have f4 := VX.out.free 4
        go_upto_region 11 with fail
        clear q0 q1 q2 q3 q4 f0 f1 f2 f3 f4
        replace IX0 := hide (IX0.out.other5 (C := (U + 1)) (by have := L0.out; have := L1.out; have := L2.out; have := L3.out; omega) (.int .i64 Y.op) (.int .i64 Y.to) (.int .i64 Y.a) (.int .i64 Y.b) (.int .i64 Y.c))
        replace IX1 := hide (IX1.out.other5 (C := (U + 1)) (by have := L0.out; have := L1.out; have := L2.out; have := L3.out; omega) (.int .i64 Y.op) (.int .i64 Y.to) (.int .i64 Y.a) (.int .i64 Y.b) (.int .i64 Y.c))
        replace XX := hide (XX.out.other5 (C := (U + 1)) (by have := L0.out; have := L1.out; have := L2.out; have := L3.out; omega) (.int .i64 Y.op) (.int .i64 Y.to) (.int .i64 Y.a) (.int .i64 Y.b) (.int .i64 Y.c))
        replace YX := hide (YX.out.other5 (C := (U + 1)) (by have := L0.out; have := L1.out; have := L2.out; have := L3.out; omega) (.int .i64 Y.op) (.int .i64 Y.to) (.int .i64 Y.a) (.int .i64 Y.b) (.int .i64 Y.c))
        replace UX := hide (UX.out.other5 (C := (U + 1)) (by have := L0.out; have := L1.out; have := L2.out; have := L3.out; omega) (.int .i64 Y.op) (.int .i64 Y.to) (.int .i64 Y.a) (.int .i64 Y.b) (.int .i64 Y.c))
        replace VX := hide (VX.out.put Y)
        replace HB := hide (below_put5 HB.out (show w.heap.size ≤ (U + 1) by have := GU.out; omega) (.int .i64 Y.op) (.int .i64 Y.to) (.int .i64 Y.a) (.int .i64 Y.b) (.int .i64 Y.c))
        generalize (((((w10ba.setCell ⟨U + 1, 0, none⟩ (.int .i64 Y.op)).setCell ⟨U + 1, 1, none⟩ (.int .i64 Y.to)).setCell ⟨U + 1, 2, none⟩ (.int .i64 Y.a)).setCell ⟨U + 1, 3, none⟩ (.int .i64 Y.b)).setCell ⟨U + 1, 4, none⟩ (.int .i64 Y.c)) = w10bb at *
        have hnj := fun u => neq_yes Y ⟨bo, t2, ba, bb, bc⟩ hY u
        dsimp only at hnj
        have hM := MN.out (.inr (.inr (by first | exact hY | assumption)))
        subst hM
        have a0 := IX0.out.cells.cell0
        have a1 := IX0.out.cells.cell1
        have a2 := IX0.out.cells.cell2
        have a3 := IX0.out.cells.cell3
        have a4 := IX0.out.cells.cell4
        simp only [Nat.zero_add] at a1 a2 a3 a4
        have b0 := IX1.out.cells.cell0
        have b1 := IX1.out.cells.cell1
        have b2 := IX1.out.cells.cell2
        have b3 := IX1.out.cells.cell3
        have b4 := IX1.out.cells.cell4
        simp only [Nat.zero_add] at b1 b2 b3 b4
        have c0 := XX.out.cells.cell0
        have c1 := XX.out.cells.cell1
        have c2 := XX.out.cells.cell2
        have c3 := XX.out.cells.cell3
        have c4 := XX.out.cells.cell4
        simp only [Nat.zero_add] at c1 c2 c3 c4
        have d0 := YX.out.cells.cell0
        have d1 := YX.out.cells.cell1
        have d2 := YX.out.cells.cell2
        have d3 := YX.out.cells.cell3
        have d4 := YX.out.cells.cell4
        simp only [Nat.zero_add] at d1 d2 d3 d4
        have u0 := UX.out.cells.cell0
        have u1 := UX.out.cells.cell1
        have u2 := UX.out.cells.cell2
        have u3 := UX.out.cells.cell3
        have u4 := UX.out.cells.cell4
        simp only [Nat.zero_add] at u1 u2 u3 u4
        have v0 := VX.out.cells.cell0
        have v1 := VX.out.cells.cell1
        have v2 := VX.out.cells.cell2
        have v3 := VX.out.cells.cell3
        have v4 := VX.out.cells.cell4
        simp only [Nat.zero_add] at v1 v2 v3 v4
        go_wp2_with fail
        refine (MM.out _ (HT0.out.below HB.out)).mono ?_
        rintro e w20 ⟨rfl, hb⟩
        replace IX0 := hide (IX0.out.step hb)
        replace IX1 := hide (IX1.out.step hb)
        replace XX := hide (XX.out.step hb)
        replace YX := hide (YX.out.step hb)
        replace UX := hide (UX.out.step hb)
        replace VX := hide (VX.out.step hb)
        replace HB := hide (HB.out.trans (hb.mono HB.out.size))
        clear hb
        clear a0 a1 a2 a3 a4 b0 b1 b2 b3 b4 c0 c1 c2 c3 c4 d0 d1 d2 d3 d4 u0 u1 u2 u3 u4 v0 v1 v2 v3 v4
        unfold mlE mlV
        dsimp only [Option.getD_none, Option.isSome_none]
        go_upto_region 14 with fail
        have hb := below_alloc w20 (.cells #[.int .i64 0, .int .i64 0, .int .i64 0, .int .i64 0, .int .i64 0] 24)
        have GX : Hid (Box5 (w20.alloc (.cells #[.int .i64 0, .int .i64 0, .int .i64 0, .int .i64 0, .int .i64 0] 24)) w20.heap.size 24 ⟨0, 0, 0, 0, 0⟩) := hide (Box5.new w20 24 ⟨0, 0, 0, 0, 0⟩)
        replace IX0 := hide (IX0.out.step hb)
        replace IX1 := hide (IX1.out.step hb)
        replace XX := hide (XX.out.step hb)
        replace YX := hide (YX.out.step hb)
        replace UX := hide (UX.out.step hb)
        replace VX := hide (VX.out.step hb)
        replace HB := hide (HB.out.trans (hb.mono HB.out.size))
        clear hb
        generalize w20.alloc (.cells #[.int .i64 0, .int .i64 0, .int .i64 0, .int .i64 0, .int .i64 0] 24) = w21 at *
        generalize w20.heap.size = BG at *
        have a0 := IX0.out.cells.cell0
        have a1 := IX0.out.cells.cell1
        have a2 := IX0.out.cells.cell2
        have a3 := IX0.out.cells.cell3
        have a4 := IX0.out.cells.cell4
        simp only [Nat.zero_add] at a1 a2 a3 a4
        have b0 := IX1.out.cells.cell0
        have b1 := IX1.out.cells.cell1
        have b2 := IX1.out.cells.cell2
        have b3 := IX1.out.cells.cell3
        have b4 := IX1.out.cells.cell4
        simp only [Nat.zero_add] at b1 b2 b3 b4
        have c0 := XX.out.cells.cell0
        have c1 := XX.out.cells.cell1
        have c2 := XX.out.cells.cell2
        have c3 := XX.out.cells.cell3
        have c4 := XX.out.cells.cell4
        simp only [Nat.zero_add] at c1 c2 c3 c4
        have d0 := YX.out.cells.cell0
        have d1 := YX.out.cells.cell1
        have d2 := YX.out.cells.cell2
        have d3 := YX.out.cells.cell3
        have d4 := YX.out.cells.cell4
        simp only [Nat.zero_add] at d1 d2 d3 d4
        have u0 := UX.out.cells.cell0
        have u1 := UX.out.cells.cell1
        have u2 := UX.out.cells.cell2
        have u3 := UX.out.cells.cell3
        have u4 := UX.out.cells.cell4
        simp only [Nat.zero_add] at u1 u2 u3 u4
        have v0 := VX.out.cells.cell0
        have v1 := VX.out.cells.cell1
        have v2 := VX.out.cells.cell2
        have v3 := VX.out.cells.cell3
        have v4 := VX.out.cells.cell4
        simp only [Nat.zero_add] at v1 v2 v3 v4
        have g0 := GX.out.cells.cell0
        have g1 := GX.out.cells.cell1
        have g2 := GX.out.cells.cell2
        have g3 := GX.out.cells.cell3
        have g4 := GX.out.cells.cell4
        simp only [Nat.zero_add] at g1 g2 g3 g4
        go_wp2
        go_ret
        exact ⟨by first | rfl | simp, HB.out⟩
    · skip
      have k0 := IX0.out.cells.cell0
      have k1 := IX0.out.cells.cell1
      have k2 := IX0.out.cells.cell2
      have k3 := IX0.out.cells.cell3
      have k4 := IX0.out.cells.cell4
      simp only [Nat.zero_add] at k1 k2 k3 k4
      go_wp2_with fail
      refine (PI.out (by first | rfl | trivial) _).mono ?_
      rintro e w10a ⟨rfl, hb⟩
      replace IX0 := hide (IX0.out.step hb)
      replace IX1 := hide (IX1.out.step hb)
      replace XX := hide (XX.out.step hb)
      replace YX := hide (YX.out.step hb)
      replace UX := hide (UX.out.step hb)
      replace VX := hide (VX.out.step hb)
      replace HB := hide (HB.out.trans (hb.mono HB.out.size))
      clear hb k0 k1 k2 k3 k4
      have q0 := UX.out.cells.cell0
      have q1 := UX.out.cells.cell1
      have q2 := UX.out.cells.cell2
      have q3 := UX.out.cells.cell3
      have q4 := UX.out.cells.cell4
      simp only [Nat.zero_add] at q1 q2 q3 q4
      have f0 := UX.out.free 0
      have f1 := UX.out.free 1
      have f2 := UX.out.free 2
      have f3 := UX.out.free 3
      have f4 := UX.out.free 4
      go_upto_region 9 with fail
      clear q0 q1 q2 q3 q4 f0 f1 f2 f3 f4
      replace IX0 := hide (IX0.out.other5 (C := U) (by have := L0.out; have := L1.out; have := L2.out; have := L3.out; omega) (.int .i64 X.op) (.int .i64 X.to) (.int .i64 X.a) (.int .i64 X.b) (.int .i64 X.c))
      replace IX1 := hide (IX1.out.other5 (C := U) (by have := L0.out; have := L1.out; have := L2.out; have := L3.out; omega) (.int .i64 X.op) (.int .i64 X.to) (.int .i64 X.a) (.int .i64 X.b) (.int .i64 X.c))
      replace XX := hide (XX.out.other5 (C := U) (by have := L0.out; have := L1.out; have := L2.out; have := L3.out; omega) (.int .i64 X.op) (.int .i64 X.to) (.int .i64 X.a) (.int .i64 X.b) (.int .i64 X.c))
      replace YX := hide (YX.out.other5 (C := U) (by have := L0.out; have := L1.out; have := L2.out; have := L3.out; omega) (.int .i64 X.op) (.int .i64 X.to) (.int .i64 X.a) (.int .i64 X.b) (.int .i64 X.c))
      replace UX := hide (UX.out.put X)
      replace VX := hide (VX.out.other5 (C := U) (by have := L0.out; have := L1.out; have := L2.out; have := L3.out; omega) (.int .i64 X.op) (.int .i64 X.to) (.int .i64 X.a) (.int .i64 X.b) (.int .i64 X.c))
      replace HB := hide (below_put5 HB.out (show w.heap.size ≤ U by have := GU.out; omega) (.int .i64 X.op) (.int .i64 X.to) (.int .i64 X.a) (.int .i64 X.b) (.int .i64 X.c))
      generalize (((((w10a.setCell ⟨U, 0, none⟩ (.int .i64 X.op)).setCell ⟨U, 1, none⟩ (.int .i64 X.to)).setCell ⟨U, 2, none⟩ (.int .i64 X.a)).setCell ⟨U, 3, none⟩ (.int .i64 X.b)).setCell ⟨U, 4, none⟩ (.int .i64 X.c)) = w10b at *
      rcases QJ.out with ⟨rfl, rfl, rfl⟩ | ⟨rfl, rfl, rfl⟩ | ⟨rfl, hY, rfl⟩
      · skip
        go_upto_region 11 with fail
        have hni := fun u => neq_yes X ⟨ao, t1, aa, ab, ac⟩ hX u
        dsimp only at hni
        have hM := MN.out (.inl (.inr (by first | exact hX | assumption)))
        subst hM
        have a0 := IX0.out.cells.cell0
        have a1 := IX0.out.cells.cell1
        have a2 := IX0.out.cells.cell2
        have a3 := IX0.out.cells.cell3
        have a4 := IX0.out.cells.cell4
        simp only [Nat.zero_add] at a1 a2 a3 a4
        have b0 := IX1.out.cells.cell0
        have b1 := IX1.out.cells.cell1
        have b2 := IX1.out.cells.cell2
        have b3 := IX1.out.cells.cell3
        have b4 := IX1.out.cells.cell4
        simp only [Nat.zero_add] at b1 b2 b3 b4
        have c0 := XX.out.cells.cell0
        have c1 := XX.out.cells.cell1
        have c2 := XX.out.cells.cell2
        have c3 := XX.out.cells.cell3
        have c4 := XX.out.cells.cell4
        simp only [Nat.zero_add] at c1 c2 c3 c4
        have d0 := YX.out.cells.cell0
        have d1 := YX.out.cells.cell1
        have d2 := YX.out.cells.cell2
        have d3 := YX.out.cells.cell3
        have d4 := YX.out.cells.cell4
        simp only [Nat.zero_add] at d1 d2 d3 d4
        have u0 := UX.out.cells.cell0
        have u1 := UX.out.cells.cell1
        have u2 := UX.out.cells.cell2
        have u3 := UX.out.cells.cell3
        have u4 := UX.out.cells.cell4
        simp only [Nat.zero_add] at u1 u2 u3 u4
        have v0 := VX.out.cells.cell0
        have v1 := VX.out.cells.cell1
        have v2 := VX.out.cells.cell2
        have v3 := VX.out.cells.cell3
        have v4 := VX.out.cells.cell4
        simp only [Nat.zero_add] at v1 v2 v3 v4
        go_wp2_with fail
        refine (MM.out _ (HT0.out.below HB.out)).mono ?_
        rintro e w20 ⟨rfl, hb⟩
        replace IX0 := hide (IX0.out.step hb)
        replace IX1 := hide (IX1.out.step hb)
        replace XX := hide (XX.out.step hb)
        replace YX := hide (YX.out.step hb)
        replace UX := hide (UX.out.step hb)
        replace VX := hide (VX.out.step hb)
        replace HB := hide (HB.out.trans (hb.mono HB.out.size))
        clear hb
        clear a0 a1 a2 a3 a4 b0 b1 b2 b3 b4 c0 c1 c2 c3 c4 d0 d1 d2 d3 d4 u0 u1 u2 u3 u4 v0 v1 v2 v3 v4
        unfold mlE mlV
        dsimp only [Option.getD_none, Option.isSome_none]
        go_upto_region 14 with fail
        have hb := below_alloc w20 (.cells #[.int .i64 0, .int .i64 0, .int .i64 0, .int .i64 0, .int .i64 0] 24)
        have GX : Hid (Box5 (w20.alloc (.cells #[.int .i64 0, .int .i64 0, .int .i64 0, .int .i64 0, .int .i64 0] 24)) w20.heap.size 24 ⟨0, 0, 0, 0, 0⟩) := hide (Box5.new w20 24 ⟨0, 0, 0, 0, 0⟩)
        replace IX0 := hide (IX0.out.step hb)
        replace IX1 := hide (IX1.out.step hb)
        replace XX := hide (XX.out.step hb)
        replace YX := hide (YX.out.step hb)
        replace UX := hide (UX.out.step hb)
        replace VX := hide (VX.out.step hb)
        replace HB := hide (HB.out.trans (hb.mono HB.out.size))
        clear hb
        generalize w20.alloc (.cells #[.int .i64 0, .int .i64 0, .int .i64 0, .int .i64 0, .int .i64 0] 24) = w21 at *
        generalize w20.heap.size = BG at *
        have a0 := IX0.out.cells.cell0
        have a1 := IX0.out.cells.cell1
        have a2 := IX0.out.cells.cell2
        have a3 := IX0.out.cells.cell3
        have a4 := IX0.out.cells.cell4
        simp only [Nat.zero_add] at a1 a2 a3 a4
        have b0 := IX1.out.cells.cell0
        have b1 := IX1.out.cells.cell1
        have b2 := IX1.out.cells.cell2
        have b3 := IX1.out.cells.cell3
        have b4 := IX1.out.cells.cell4
        simp only [Nat.zero_add] at b1 b2 b3 b4
        have c0 := XX.out.cells.cell0
        have c1 := XX.out.cells.cell1
        have c2 := XX.out.cells.cell2
        have c3 := XX.out.cells.cell3
        have c4 := XX.out.cells.cell4
        simp only [Nat.zero_add] at c1 c2 c3 c4
        have d0 := YX.out.cells.cell0
        have d1 := YX.out.cells.cell1
        have d2 := YX.out.cells.cell2
        have d3 := YX.out.cells.cell3
        have d4 := YX.out.cells.cell4
        simp only [Nat.zero_add] at d1 d2 d3 d4
        have u0 := UX.out.cells.cell0
        have u1 := UX.out.cells.cell1
        have u2 := UX.out.cells.cell2
        have u3 := UX.out.cells.cell3
        have u4 := UX.out.cells.cell4
        simp only [Nat.zero_add] at u1 u2 u3 u4
        have v0 := VX.out.cells.cell0
        have v1 := VX.out.cells.cell1
        have v2 := VX.out.cells.cell2
        have v3 := VX.out.cells.cell3
        have v4 := VX.out.cells.cell4
        simp only [Nat.zero_add] at v1 v2 v3 v4
        have g0 := GX.out.cells.cell0
        have g1 := GX.out.cells.cell1
        have g2 := GX.out.cells.cell2
        have g3 := GX.out.cells.cell3
        have g4 := GX.out.cells.cell4
        simp only [Nat.zero_add] at g1 g2 g3 g4
        go_wp2
        go_ret
        exact ⟨by first | rfl | simp, HB.out⟩
      · skip
        have k0 := IX1.out.cells.cell0
        have k1 := IX1.out.cells.cell1
        have k2 := IX1.out.cells.cell2
        have k3 := IX1.out.cells.cell3
        have k4 := IX1.out.cells.cell4
        simp only [Nat.zero_add] at k1 k2 k3 k4
        go_wp2_with fail
        refine (PJ.out (by first | rfl | trivial) _).mono ?_
        rintro e w10ba ⟨rfl, hb⟩
        replace IX0 := hide (IX0.out.step hb)
        replace IX1 := hide (IX1.out.step hb)
        replace XX := hide (XX.out.step hb)
        replace YX := hide (YX.out.step hb)
        replace UX := hide (UX.out.step hb)
        replace VX := hide (VX.out.step hb)
        replace HB := hide (HB.out.trans (hb.mono HB.out.size))
        clear hb k0 k1 k2 k3 k4
        have q0 := VX.out.cells.cell0
        have q1 := VX.out.cells.cell1
        have q2 := VX.out.cells.cell2
        have q3 := VX.out.cells.cell3
        have q4 := VX.out.cells.cell4
        simp only [Nat.zero_add] at q1 q2 q3 q4
        have f0 := VX.out.free 0
        have f1 := VX.out.free 1
        have f2 := VX.out.free 2
        have f3 := VX.out.free 3
        have f4 := VX.out.free 4
        go_upto_region 11 with fail
        clear q0 q1 q2 q3 q4 f0 f1 f2 f3 f4
        replace IX0 := hide (IX0.out.other5 (C := (U + 1)) (by have := L0.out; have := L1.out; have := L2.out; have := L3.out; omega) (.int .i64 bo) (.int .i64 t2) (.int .i64 ba) (.int .i64 bb) (.int .i64 bc))
        replace IX1 := hide (IX1.out.other5 (C := (U + 1)) (by have := L0.out; have := L1.out; have := L2.out; have := L3.out; omega) (.int .i64 bo) (.int .i64 t2) (.int .i64 ba) (.int .i64 bb) (.int .i64 bc))
        replace XX := hide (XX.out.other5 (C := (U + 1)) (by have := L0.out; have := L1.out; have := L2.out; have := L3.out; omega) (.int .i64 bo) (.int .i64 t2) (.int .i64 ba) (.int .i64 bb) (.int .i64 bc))
        replace YX := hide (YX.out.other5 (C := (U + 1)) (by have := L0.out; have := L1.out; have := L2.out; have := L3.out; omega) (.int .i64 bo) (.int .i64 t2) (.int .i64 ba) (.int .i64 bb) (.int .i64 bc))
        replace UX := hide (UX.out.other5 (C := (U + 1)) (by have := L0.out; have := L1.out; have := L2.out; have := L3.out; omega) (.int .i64 bo) (.int .i64 t2) (.int .i64 ba) (.int .i64 bb) (.int .i64 bc))
        replace VX := hide (VX.out.put ⟨bo, t2, ba, bb, bc⟩)
        replace HB := hide (below_put5 HB.out (show w.heap.size ≤ (U + 1) by have := GU.out; omega) (.int .i64 bo) (.int .i64 t2) (.int .i64 ba) (.int .i64 bb) (.int .i64 bc))
        generalize (((((w10ba.setCell ⟨U + 1, 0, none⟩ (.int .i64 bo)).setCell ⟨U + 1, 1, none⟩ (.int .i64 t2)).setCell ⟨U + 1, 2, none⟩ (.int .i64 ba)).setCell ⟨U + 1, 3, none⟩ (.int .i64 bb)).setCell ⟨U + 1, 4, none⟩ (.int .i64 bc)) = w10bb at *
        have hni := fun u => neq_yes X ⟨ao, t1, aa, ab, ac⟩ hX u
        dsimp only at hni
        have hM := MN.out (.inl (.inr (by first | exact hX | assumption)))
        subst hM
        have a0 := IX0.out.cells.cell0
        have a1 := IX0.out.cells.cell1
        have a2 := IX0.out.cells.cell2
        have a3 := IX0.out.cells.cell3
        have a4 := IX0.out.cells.cell4
        simp only [Nat.zero_add] at a1 a2 a3 a4
        have b0 := IX1.out.cells.cell0
        have b1 := IX1.out.cells.cell1
        have b2 := IX1.out.cells.cell2
        have b3 := IX1.out.cells.cell3
        have b4 := IX1.out.cells.cell4
        simp only [Nat.zero_add] at b1 b2 b3 b4
        have c0 := XX.out.cells.cell0
        have c1 := XX.out.cells.cell1
        have c2 := XX.out.cells.cell2
        have c3 := XX.out.cells.cell3
        have c4 := XX.out.cells.cell4
        simp only [Nat.zero_add] at c1 c2 c3 c4
        have d0 := YX.out.cells.cell0
        have d1 := YX.out.cells.cell1
        have d2 := YX.out.cells.cell2
        have d3 := YX.out.cells.cell3
        have d4 := YX.out.cells.cell4
        simp only [Nat.zero_add] at d1 d2 d3 d4
        have u0 := UX.out.cells.cell0
        have u1 := UX.out.cells.cell1
        have u2 := UX.out.cells.cell2
        have u3 := UX.out.cells.cell3
        have u4 := UX.out.cells.cell4
        simp only [Nat.zero_add] at u1 u2 u3 u4
        have v0 := VX.out.cells.cell0
        have v1 := VX.out.cells.cell1
        have v2 := VX.out.cells.cell2
        have v3 := VX.out.cells.cell3
        have v4 := VX.out.cells.cell4
        simp only [Nat.zero_add] at v1 v2 v3 v4
        go_wp2_with fail
        refine (MM.out _ (HT0.out.below HB.out)).mono ?_
        rintro e w20 ⟨rfl, hb⟩
        replace IX0 := hide (IX0.out.step hb)
        replace IX1 := hide (IX1.out.step hb)
        replace XX := hide (XX.out.step hb)
        replace YX := hide (YX.out.step hb)
        replace UX := hide (UX.out.step hb)
        replace VX := hide (VX.out.step hb)
        replace HB := hide (HB.out.trans (hb.mono HB.out.size))
        clear hb
        clear a0 a1 a2 a3 a4 b0 b1 b2 b3 b4 c0 c1 c2 c3 c4 d0 d1 d2 d3 d4 u0 u1 u2 u3 u4 v0 v1 v2 v3 v4
        unfold mlE mlV
        dsimp only [Option.getD_none, Option.isSome_none]
        go_upto_region 14 with fail
        have hb := below_alloc w20 (.cells #[.int .i64 0, .int .i64 0, .int .i64 0, .int .i64 0, .int .i64 0] 24)
        have GX : Hid (Box5 (w20.alloc (.cells #[.int .i64 0, .int .i64 0, .int .i64 0, .int .i64 0, .int .i64 0] 24)) w20.heap.size 24 ⟨0, 0, 0, 0, 0⟩) := hide (Box5.new w20 24 ⟨0, 0, 0, 0, 0⟩)
        replace IX0 := hide (IX0.out.step hb)
        replace IX1 := hide (IX1.out.step hb)
        replace XX := hide (XX.out.step hb)
        replace YX := hide (YX.out.step hb)
        replace UX := hide (UX.out.step hb)
        replace VX := hide (VX.out.step hb)
        replace HB := hide (HB.out.trans (hb.mono HB.out.size))
        clear hb
        generalize w20.alloc (.cells #[.int .i64 0, .int .i64 0, .int .i64 0, .int .i64 0, .int .i64 0] 24) = w21 at *
        generalize w20.heap.size = BG at *
        have a0 := IX0.out.cells.cell0
        have a1 := IX0.out.cells.cell1
        have a2 := IX0.out.cells.cell2
        have a3 := IX0.out.cells.cell3
        have a4 := IX0.out.cells.cell4
        simp only [Nat.zero_add] at a1 a2 a3 a4
        have b0 := IX1.out.cells.cell0
        have b1 := IX1.out.cells.cell1
        have b2 := IX1.out.cells.cell2
        have b3 := IX1.out.cells.cell3
        have b4 := IX1.out.cells.cell4
        simp only [Nat.zero_add] at b1 b2 b3 b4
        have c0 := XX.out.cells.cell0
        have c1 := XX.out.cells.cell1
        have c2 := XX.out.cells.cell2
        have c3 := XX.out.cells.cell3
        have c4 := XX.out.cells.cell4
        simp only [Nat.zero_add] at c1 c2 c3 c4
        have d0 := YX.out.cells.cell0
        have d1 := YX.out.cells.cell1
        have d2 := YX.out.cells.cell2
        have d3 := YX.out.cells.cell3
        have d4 := YX.out.cells.cell4
        simp only [Nat.zero_add] at d1 d2 d3 d4
        have u0 := UX.out.cells.cell0
        have u1 := UX.out.cells.cell1
        have u2 := UX.out.cells.cell2
        have u3 := UX.out.cells.cell3
        have u4 := UX.out.cells.cell4
        simp only [Nat.zero_add] at u1 u2 u3 u4
        have v0 := VX.out.cells.cell0
        have v1 := VX.out.cells.cell1
        have v2 := VX.out.cells.cell2
        have v3 := VX.out.cells.cell3
        have v4 := VX.out.cells.cell4
        simp only [Nat.zero_add] at v1 v2 v3 v4
        have g0 := GX.out.cells.cell0
        have g1 := GX.out.cells.cell1
        have g2 := GX.out.cells.cell2
        have g3 := GX.out.cells.cell3
        have g4 := GX.out.cells.cell4
        simp only [Nat.zero_add] at g1 g2 g3 g4
        go_wp2
        go_ret
        exact ⟨by first | rfl | simp, HB.out⟩
      · skip
        have k0 := IX1.out.cells.cell0
        have k1 := IX1.out.cells.cell1
        have k2 := IX1.out.cells.cell2
        have k3 := IX1.out.cells.cell3
        have k4 := IX1.out.cells.cell4
        simp only [Nat.zero_add] at k1 k2 k3 k4
        go_wp2_with fail
        refine (PJ.out (by first | rfl | trivial) _).mono ?_
        rintro e w10ba ⟨rfl, hb⟩
        replace IX0 := hide (IX0.out.step hb)
        replace IX1 := hide (IX1.out.step hb)
        replace XX := hide (XX.out.step hb)
        replace YX := hide (YX.out.step hb)
        replace UX := hide (UX.out.step hb)
        replace VX := hide (VX.out.step hb)
        replace HB := hide (HB.out.trans (hb.mono HB.out.size))
        clear hb k0 k1 k2 k3 k4
        have q0 := VX.out.cells.cell0
        have q1 := VX.out.cells.cell1
        have q2 := VX.out.cells.cell2
        have q3 := VX.out.cells.cell3
        have q4 := VX.out.cells.cell4
        simp only [Nat.zero_add] at q1 q2 q3 q4
        have f0 := VX.out.free 0
        have f1 := VX.out.free 1
        have f2 := VX.out.free 2
        have f3 := VX.out.free 3
        have f4 := VX.out.free 4
        go_upto_region 11 with fail
        clear q0 q1 q2 q3 q4 f0 f1 f2 f3 f4
        replace IX0 := hide (IX0.out.other5 (C := (U + 1)) (by have := L0.out; have := L1.out; have := L2.out; have := L3.out; omega) (.int .i64 Y.op) (.int .i64 Y.to) (.int .i64 Y.a) (.int .i64 Y.b) (.int .i64 Y.c))
        replace IX1 := hide (IX1.out.other5 (C := (U + 1)) (by have := L0.out; have := L1.out; have := L2.out; have := L3.out; omega) (.int .i64 Y.op) (.int .i64 Y.to) (.int .i64 Y.a) (.int .i64 Y.b) (.int .i64 Y.c))
        replace XX := hide (XX.out.other5 (C := (U + 1)) (by have := L0.out; have := L1.out; have := L2.out; have := L3.out; omega) (.int .i64 Y.op) (.int .i64 Y.to) (.int .i64 Y.a) (.int .i64 Y.b) (.int .i64 Y.c))
        replace YX := hide (YX.out.other5 (C := (U + 1)) (by have := L0.out; have := L1.out; have := L2.out; have := L3.out; omega) (.int .i64 Y.op) (.int .i64 Y.to) (.int .i64 Y.a) (.int .i64 Y.b) (.int .i64 Y.c))
        replace UX := hide (UX.out.other5 (C := (U + 1)) (by have := L0.out; have := L1.out; have := L2.out; have := L3.out; omega) (.int .i64 Y.op) (.int .i64 Y.to) (.int .i64 Y.a) (.int .i64 Y.b) (.int .i64 Y.c))
        replace VX := hide (VX.out.put Y)
        replace HB := hide (below_put5 HB.out (show w.heap.size ≤ (U + 1) by have := GU.out; omega) (.int .i64 Y.op) (.int .i64 Y.to) (.int .i64 Y.a) (.int .i64 Y.b) (.int .i64 Y.c))
        generalize (((((w10ba.setCell ⟨U + 1, 0, none⟩ (.int .i64 Y.op)).setCell ⟨U + 1, 1, none⟩ (.int .i64 Y.to)).setCell ⟨U + 1, 2, none⟩ (.int .i64 Y.a)).setCell ⟨U + 1, 3, none⟩ (.int .i64 Y.b)).setCell ⟨U + 1, 4, none⟩ (.int .i64 Y.c)) = w10bb at *
        have hni := fun u => neq_yes X ⟨ao, t1, aa, ab, ac⟩ hX u
        dsimp only at hni
        have hnj := fun u => neq_yes Y ⟨bo, t2, ba, bb, bc⟩ hY u
        dsimp only at hnj
        have hM := MN.out (.inl (.inr (by first | exact hX | assumption)))
        subst hM
        have a0 := IX0.out.cells.cell0
        have a1 := IX0.out.cells.cell1
        have a2 := IX0.out.cells.cell2
        have a3 := IX0.out.cells.cell3
        have a4 := IX0.out.cells.cell4
        simp only [Nat.zero_add] at a1 a2 a3 a4
        have b0 := IX1.out.cells.cell0
        have b1 := IX1.out.cells.cell1
        have b2 := IX1.out.cells.cell2
        have b3 := IX1.out.cells.cell3
        have b4 := IX1.out.cells.cell4
        simp only [Nat.zero_add] at b1 b2 b3 b4
        have c0 := XX.out.cells.cell0
        have c1 := XX.out.cells.cell1
        have c2 := XX.out.cells.cell2
        have c3 := XX.out.cells.cell3
        have c4 := XX.out.cells.cell4
        simp only [Nat.zero_add] at c1 c2 c3 c4
        have d0 := YX.out.cells.cell0
        have d1 := YX.out.cells.cell1
        have d2 := YX.out.cells.cell2
        have d3 := YX.out.cells.cell3
        have d4 := YX.out.cells.cell4
        simp only [Nat.zero_add] at d1 d2 d3 d4
        have u0 := UX.out.cells.cell0
        have u1 := UX.out.cells.cell1
        have u2 := UX.out.cells.cell2
        have u3 := UX.out.cells.cell3
        have u4 := UX.out.cells.cell4
        simp only [Nat.zero_add] at u1 u2 u3 u4
        have v0 := VX.out.cells.cell0
        have v1 := VX.out.cells.cell1
        have v2 := VX.out.cells.cell2
        have v3 := VX.out.cells.cell3
        have v4 := VX.out.cells.cell4
        simp only [Nat.zero_add] at v1 v2 v3 v4
        go_wp2_with fail
        refine (MM.out _ (HT0.out.below HB.out)).mono ?_
        rintro e w20 ⟨rfl, hb⟩
        replace IX0 := hide (IX0.out.step hb)
        replace IX1 := hide (IX1.out.step hb)
        replace XX := hide (XX.out.step hb)
        replace YX := hide (YX.out.step hb)
        replace UX := hide (UX.out.step hb)
        replace VX := hide (VX.out.step hb)
        replace HB := hide (HB.out.trans (hb.mono HB.out.size))
        clear hb
        clear a0 a1 a2 a3 a4 b0 b1 b2 b3 b4 c0 c1 c2 c3 c4 d0 d1 d2 d3 d4 u0 u1 u2 u3 u4 v0 v1 v2 v3 v4
        unfold mlE mlV
        dsimp only [Option.getD_none, Option.isSome_none]
        go_upto_region 14 with fail
        have hb := below_alloc w20 (.cells #[.int .i64 0, .int .i64 0, .int .i64 0, .int .i64 0, .int .i64 0] 24)
        have GX : Hid (Box5 (w20.alloc (.cells #[.int .i64 0, .int .i64 0, .int .i64 0, .int .i64 0, .int .i64 0] 24)) w20.heap.size 24 ⟨0, 0, 0, 0, 0⟩) := hide (Box5.new w20 24 ⟨0, 0, 0, 0, 0⟩)
        replace IX0 := hide (IX0.out.step hb)
        replace IX1 := hide (IX1.out.step hb)
        replace XX := hide (XX.out.step hb)
        replace YX := hide (YX.out.step hb)
        replace UX := hide (UX.out.step hb)
        replace VX := hide (VX.out.step hb)
        replace HB := hide (HB.out.trans (hb.mono HB.out.size))
        clear hb
        generalize w20.alloc (.cells #[.int .i64 0, .int .i64 0, .int .i64 0, .int .i64 0, .int .i64 0] 24) = w21 at *
        generalize w20.heap.size = BG at *
        have a0 := IX0.out.cells.cell0
        have a1 := IX0.out.cells.cell1
        have a2 := IX0.out.cells.cell2
        have a3 := IX0.out.cells.cell3
        have a4 := IX0.out.cells.cell4
        simp only [Nat.zero_add] at a1 a2 a3 a4
        have b0 := IX1.out.cells.cell0
        have b1 := IX1.out.cells.cell1
        have b2 := IX1.out.cells.cell2
        have b3 := IX1.out.cells.cell3
        have b4 := IX1.out.cells.cell4
        simp only [Nat.zero_add] at b1 b2 b3 b4
        have c0 := XX.out.cells.cell0
        have c1 := XX.out.cells.cell1
        have c2 := XX.out.cells.cell2
        have c3 := XX.out.cells.cell3
        have c4 := XX.out.cells.cell4
        simp only [Nat.zero_add] at c1 c2 c3 c4
        have d0 := YX.out.cells.cell0
        have d1 := YX.out.cells.cell1
        have d2 := YX.out.cells.cell2
        have d3 := YX.out.cells.cell3
        have d4 := YX.out.cells.cell4
        simp only [Nat.zero_add] at d1 d2 d3 d4
        have u0 := UX.out.cells.cell0
        have u1 := UX.out.cells.cell1
        have u2 := UX.out.cells.cell2
        have u3 := UX.out.cells.cell3
        have u4 := UX.out.cells.cell4
        simp only [Nat.zero_add] at u1 u2 u3 u4
        have v0 := VX.out.cells.cell0
        have v1 := VX.out.cells.cell1
        have v2 := VX.out.cells.cell2
        have v3 := VX.out.cells.cell3
        have v4 := VX.out.cells.cell4
        simp only [Nat.zero_add] at v1 v2 v3 v4
        have g0 := GX.out.cells.cell0
        have g1 := GX.out.cells.cell1
        have g2 := GX.out.cells.cell2
        have g3 := GX.out.cells.cell3
        have g4 := GX.out.cells.cell4
        simp only [Nat.zero_add] at g1 g2 g3 g4
        go_wp2
        go_ret
        exact ⟨by first | rfl | simp, HB.out⟩
end Go.Proofs.YtokgdegfcncahaaDoor
