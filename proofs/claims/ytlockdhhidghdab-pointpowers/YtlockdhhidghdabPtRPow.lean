/- Points: powers (the document's Powers); swagelaw06.is. -/
import Derived.Test.YtlockdhhidghdabPtPow
import Derived.Test.YtlockdhhidghdabR2Pow
import Derived.Test.YtlockdhhidghdabR2Mul
import Derived.Test.YtlockdhhidghdabR2Num
import Derived.Test.YtlockdhhidghdabR2Is
namespace Go.Proofs.Ytlockdhhidghdab
open Go.RowKit

theorem Try.infoRP : (Try.prog.info? 35).map (fun i => (i.zero, i.size, i.bytes)) = some (some (.agg #[.bool false, .slice none 0 0]), 2, 32) := by kernel_rfl
theorem RInt.cellsP {w : World} {v : Value} {z : Int} (h : RInt w v z) : ∃ s m n c, v = .agg #[.bool s, .slice m n c] ∧ RInt w (.agg #[.bool s, .slice m n c]) z := by
  obtain ⟨b, j, a, c, rfl, hx⟩ := h
  exact ⟨b, a, _, c, rfl, b, j, a, c, rfl, hx⟩
theorem below_growP {B : Nat} {w w' w'' : World} {r : Option Nat} (h : Below B w w') (hg : w'.grownBy w'' r) (hB : B ≤ w'.heap.size) (hr : ∀ g, r = some g → B ≤ g) : Below B w w'' := h.grown hg hB hr
theorem powl_snoc (a b : Int) (n k : Nat) : (List.range (k + 1)).map (powf a b n) = (List.range k).map (powf a b n) ++ [powf a b n k] := by rw [List.range_succ, List.map_append]; rfl
theorem small_dlen {x : Int} (h : x.natAbs ≤ 16) : (D.lim x.natAbs).length ≤ 100000000 := SzI.dlen (k := 1) (by unfold SzI BB; omega) (by decide)

set_option maxRecDepth 100000 in
set_option maxHeartbeats 8000000 in
theorem rpowers_any (a b : Int) (n : Nat) (w : World) (h : inB a b = true) (hn : n ≤ 16) :
    Calls Try.prog 33 #[.agg #[.int .i64 a, .int .i64 b], .int .i64 n] w fun e w' => ∃ v, e = .returned v ∧ RInts w' v ((List.range n).map (powf a b n)) ∧ Below w.heap.size w w' := by
  have HIN := hide (in_yes h)
  obtain ⟨i1, hi1, hy0, hy1, hy2⟩ := info_parts Try.infoRP
  have TR := hide (And.intro hi1 (And.intro hy0 (And.intro hy1 hy2)))
  clear hi1 hy0 hy1 hy2
  have HX := hide (Box2.new w 72 (.int .i64 a) (.int .i64 b))
  have HB := hide (below_alloc w (.cells #[.int .i64 a, .int .i64 b] 72))
  go_enter Try.func33, Try.ntmps33
  go_wp2
  go_loopw [5, 6] (fun va iv wr => ∃ k : Nat, k ≤ n ∧ iv = .int .i64 k ∧ Box2 wr w.heap.size 72 (.int .i64 a) (.int .i64 b) ∧ Below w.heap.size w wr ∧ ListR wr (w.heap.size + 1) va ((List.range k).map (powf a b n))) (fun _ iv _ => n - (intOf iv).toNat)
  case atStart => exact ⟨0, Nat.zero_le _, rfl, HX.out, HB.out, ListR.nil _ _⟩
  case round =>
    clear HX HB
    obtain ⟨k, hk, rfl, hx, hb, hL⟩ := hrel
    have HX := hide hx
    have HB := hide hb
    have LR := hide hL
    clear hx hb hL
    by_cases hlt : k < n
    · have TK := hide (powl_snoc a b n k)
      generalize hT : (List.range k).map (powf a b n) = T at *
      have TL : Hid (T.length ≤ 1000000) := hide (by rw [← hT, List.length_map, List.length_range]; omega)
      clear hT
      go_upto_region 5 with fail
      refine wp_calm (fun w' => Below w.heap.size w w' ∧ Box2 w' w.heap.size 72 (.int .i64 a) (.int .i64 b) ∧ ListR w' (w.heap.size + 1) u5 T) (fun j => j != 16 && j != 17) 18 #[false, false, false, false, false, false, false, false, false, false, false, false, false, false, false, false, false, false] (by kernel_rfl) rfl rfl ?_
      have HF := hide (And.intro (HB.out.drew) (And.intro (HX.out.drew) (LR.out.drew)))
      generalize wr.drew = wrd at *
      refine Calm.takeL 18 (i := 0) (v := ?_) (a' := ?_) (l' := #[true, false, false, false, false, false, false, false, false, false, false, false, false, false, false, false, false, false]) (d := some 12) (by kernel_rfl) rfl (by kernel_rfl) (by kernel_rfl) (by kernel_rfl) (by kernel_rfl) (fun _ _ _ h => h) HF.out rfl ?_ rfl rfl ?_ ?_
      rotate_left
      · intro w' hF; clear hF; go_simp; try rfl
      rotate_left
      · simp only [Act.put]; exact rfl
      refine Calm.takeL 18 (i := 1) (v := ?_) (a' := ?_) (l' := #[true, true, false, false, false, false, false, false, false, false, false, false, false, false, false, false, false, false]) (d := some 13) (by kernel_rfl) rfl (by kernel_rfl) (by kernel_rfl) (by kernel_rfl) (by kernel_rfl) (fun _ _ _ h => h) HF.out rfl ?_ rfl rfl ?_ ?_
      rotate_left
      · intro w' hF; clear hF; go_simp; try rfl
      rotate_left
      · simp only [Act.put]; exact rfl
      refine Calm.takeL 18 (i := 2) (v := ?_) (a' := ?_) (l' := #[true, true, true, false, false, false, false, false, false, false, false, false, false, false, false, false, false, false]) (d := some 14) (by kernel_rfl) rfl (by kernel_rfl) (by kernel_rfl) (by kernel_rfl) (by kernel_rfl) (fun _ _ _ h => h) HF.out rfl ?_ rfl rfl ?_ ?_
      rotate_left
      · intro w' hF; have f10 := hF.2.1.cell0; have f11 := hF.2.1.cell1; clear hF; go_simp; try rfl
      rotate_left
      · simp only [Act.put]; exact rfl
      refine Calm.takeL 18 (i := 4) (v := ?_) (a' := ?_) (l' := #[true, true, true, false, true, false, false, false, false, false, false, false, false, false, false, false, false, false]) (d := some 16) (by kernel_rfl) rfl (by kernel_rfl) (by kernel_rfl) (by kernel_rfl) (by kernel_rfl) (fun _ _ _ h => h) HF.out rfl ?_ rfl rfl ?_ ?_
      rotate_left
      · intro w' hF; clear hF; go_simp; try rfl
      rotate_left
      · simp only [Act.put]; exact rfl
      refine Calm.takeL 18 (i := 6) (v := ?_) (a' := ?_) (l' := #[true, true, true, false, true, false, true, false, false, false, false, false, false, false, false, false, false, false]) (d := some 18) (by kernel_rfl) rfl (by kernel_rfl) (by kernel_rfl) (by kernel_rfl) (by kernel_rfl) (fun _ _ _ h => h) HF.out rfl ?_ rfl rfl ?_ ?_
      rotate_left
      · intro w' hF; clear hF; go_simp; try rfl
      rotate_left
      · simp only [Act.put]; exact rfl
      refine Calm.takeL 18 (i := 7) (v := ?_) (a' := ?_) (l' := #[true, true, true, false, true, false, true, true, false, false, false, false, false, false, false, false, false, false]) (d := some 19) (by kernel_rfl) rfl (by kernel_rfl) (by kernel_rfl) (by kernel_rfl) (by kernel_rfl) (fun _ _ _ h => h) HF.out rfl ?_ rfl rfl ?_ ?_
      rotate_left
      · intro w' hF; have f10 := hF.2.1.cell0; have f11 := hF.2.1.cell1; clear hF; go_simp; try rfl
      rotate_left
      · simp only [Act.put]; exact rfl
      refine Calm.takeL 18 (i := 9) (v := ?_) (a' := ?_) (l' := #[true, true, true, false, true, false, true, true, false, true, false, false, false, false, false, false, false, false]) (d := some 21) (by kernel_rfl) rfl (by kernel_rfl) (by kernel_rfl) (by kernel_rfl) (by kernel_rfl) (fun _ _ _ h => h) HF.out rfl ?_ rfl rfl ?_ ?_
      rotate_left
      · intro w' hF; clear hF; go_simp; try rfl
      rotate_left
      · simp only [Act.put]; exact rfl
      refine Calm.takeL 18 (i := 10) (v := ?_) (a' := ?_) (l' := #[true, true, true, false, true, false, true, true, false, true, true, false, false, false, false, false, false, false]) (d := some 22) (by kernel_rfl) rfl (by kernel_rfl) (by kernel_rfl) (by kernel_rfl) (by kernel_rfl) (fun _ _ _ h => h) HF.out rfl ?_ rfl rfl ?_ ?_
      rotate_left
      · intro w' hF; clear hF; go_simp; try rfl
      rotate_left
      · simp only [Act.put]; exact rfl
      refine Calm.takeL 18 (i := 11) (v := ?_) (a' := ?_) (l' := #[true, true, true, false, true, false, true, true, false, true, true, true, false, false, false, false, false, false]) (d := some 23) (by kernel_rfl) rfl (by kernel_rfl) (by kernel_rfl) (by kernel_rfl) (by kernel_rfl) (fun _ _ _ h => h) HF.out rfl ?_ rfl rfl ?_ ?_
      rotate_left
      · intro w' hF; clear hF; go_simp; try rfl
      rotate_left
      · simp only [Act.put]; exact rfl
      refine Calm.takeL 18 (i := 12) (v := ?_) (a' := ?_) (l' := #[true, true, true, false, true, false, true, true, false, true, true, true, true, false, false, false, false, false]) (d := some 24) (by kernel_rfl) rfl (by kernel_rfl) (by kernel_rfl) (by kernel_rfl) (by kernel_rfl) (fun _ _ _ h => h) HF.out rfl ?_ rfl rfl ?_ ?_
      rotate_left
      · intro w' hF; clear hF; go_simp; try rfl
      rotate_left
      · simp only [Act.put]; exact rfl
      refine Calm.one (i := 3) (l' := #[true, true, true, true, true, false, true, true, false, true, true, true, true, false, false, false, false, false]) (by kernel_rfl) rfl rfl rfl fun K hK => ?_
      go_simp
      refine (rof_any a _ (by have q := HIN.out; omega) (by have q := HIN.out; omega)).mono ?_
      rintro e y1 ⟨v, rfl, i, hb⟩
      have HF' := hide (And.intro (HF.out.1.trans ((hb).mono HF.out.1.size)) (And.intro (HF.out.2.1.step (hb)) (HF.out.2.2.below (hb))))
      have T1 := hide (i)
      refine hK _ _ (fun _ => HF'.out) ?_
      clear hK K HF hb i
      have HF := hide HF'.out
      clear HF'
      refine Calm.one (i := 5) (l' := #[true, true, true, true, true, true, true, true, false, true, true, true, true, false, false, false, false, false]) (by kernel_rfl) rfl rfl rfl fun K hK => ?_
      go_simp
      refine (rpow_any _ a k _ T1.out (by omega) (fun i hi => (SzI.dlen (pw_sz (by have q := HIN.out; omega) (by omega)) (by decide))) (small_dlen (by have q := HIN.out; omega))).mono ?_
      rintro e y2 ⟨v, rfl, i, hb⟩
      clear T1
      have HF' := hide (And.intro (HF.out.1.trans ((hb).mono HF.out.1.size)) (And.intro (HF.out.2.1.step (hb)) (HF.out.2.2.below (hb))))
      have T2 := hide (i)
      refine hK _ _ (fun _ => HF'.out) ?_
      clear hK K HF hb i
      have HF := hide HF'.out
      clear HF'
      refine Calm.one (i := 8) (l' := #[true, true, true, true, true, true, true, true, true, true, true, true, true, false, false, false, false, false]) (by kernel_rfl) rfl rfl rfl fun K hK => ?_
      go_simp
      refine (rof_any b _ (by have q := HIN.out; omega) (by have q := HIN.out; omega)).mono ?_
      rintro e y3 ⟨v, rfl, i, hb⟩
      replace T2 := hide (T2.out.below (hb))
      have HF' := hide (And.intro (HF.out.1.trans ((hb).mono HF.out.1.size)) (And.intro (HF.out.2.1.step (hb)) (HF.out.2.2.below (hb))))
      have T3 := hide (i)
      refine hK _ _ (fun _ => HF'.out) ?_
      clear hK K HF hb i
      have HF := hide HF'.out
      clear HF'
      refine Calm.one (i := 13) (l' := #[true, true, true, true, true, true, true, true, true, true, true, true, true, true, false, false, false, false]) (by kernel_rfl) rfl rfl rfl fun K hK => ?_
      go_simp
      try rw [show IntKind.i64.wrap (IntKind.i64.wrap ((n : Int) - 1) - (k : Int)) = ((n - 1 - k : Nat) : Int) from by rw [IntKind.wrap_i64, IntKind.wrap_i64]; omega]
      refine (rpow_any _ b (n - 1 - k) _ T3.out (by omega) (fun i hi => (SzI.dlen (pw_sz (by have q := HIN.out; omega) (by omega)) (by decide))) (small_dlen (by have q := HIN.out; omega))).mono ?_
      rintro e y4 ⟨v, rfl, i, hb⟩
      replace T2 := hide (T2.out.below (hb))
      clear T3
      have HF' := hide (And.intro (HF.out.1.trans ((hb).mono HF.out.1.size)) (And.intro (HF.out.2.1.step (hb)) (HF.out.2.2.below (hb))))
      have T4 := hide (i)
      refine hK _ _ (fun _ => HF'.out) ?_
      clear hK K HF hb i
      have HF := hide HF'.out
      clear HF'
      refine Calm.one (i := 14) (l' := #[true, true, true, true, true, true, true, true, true, true, true, true, true, true, true, false, false, false]) (by kernel_rfl) rfl rfl rfl fun K hK => ?_
      go_simp
      refine (rmul2_any _ _ (a ^ k) (b ^ (n - 1 - k)) _ T2.out T4.out (SzI.dlen (pw_sz (by have q := HIN.out; omega) (by omega)) (by decide)) (SzI.dlen (pw_sz (by have q := HIN.out; omega) (by omega)) (by decide))).mono ?_
      rintro e y5 ⟨v, rfl, i, hb⟩
      obtain ⟨s5, m5, l5, c5, rfl, i⟩ := i.cellsP
      clear T2
      clear T4
      have HF' := hide (And.intro (HF.out.1.trans ((hb).mono HF.out.1.size)) (And.intro (HF.out.2.1.step (hb)) (HF.out.2.2.below (hb))))
      have TV := hide (i)
      refine hK _ _ (fun _ => HF'.out) ?_
      clear hK K HF hb i
      have HF := hide HF'.out
      clear HF'
      refine Calm.one (i := 15) (l' := #[true, true, true, true, true, true, true, true, true, true, true, true, true, true, true, true, false, false]) (by kernel_rfl) rfl rfl rfl fun K hK => ?_
      go_simp
      have al := below_alloc y5 (.cells #[.bool s5, .slice m5 l5 c5] 35)
      have HF' := hide (And.intro (HF.out.1.trans ((al).mono HF.out.1.size)) (And.intro (HF.out.2.1.step (al)) (HF.out.2.2.below (al))))
      have BXe := hide (Box2.new y5 35 (.bool s5) (.slice m5 l5 c5))
      replace TV := hide (TV.out.below (al))
      have LT1e := hide (HF.out.2.1.lt)
      have GEe := hide (HF.out.1.size)
      refine hK _ _ (fun _ => HF'.out) ?_
      clear hK K HF al
      have HF := hide HF'.out
      clear HF'
      generalize y5.alloc (.cells #[.bool s5, .slice m5 l5 c5] 35) = wze at *
      generalize y5.heap.size = ge at *
      refine Calm.one (i := 16) (l' := #[true, true, true, true, true, true, true, true, true, true, true, true, true, true, true, true, true, false]) (by kernel_rfl) rfl rfl rfl fun K hK => ?_
      obtain ⟨zx, ho, hx⟩ := HF.out.2.2
      have he0 := BXe.out.cell0
      have he1 := BXe.out.cell1
      refine wp_app2 _ (.tmp 12) (.tmp 27) 43 rfl (w.heap.size + 1) 35 _ Try.underlying43 TR.out.1 TR.out.2.1 TR.out.2.2.1 TR.out.2.2.2 u5 T.length zx rfl ho ge 1 s5 m5 l5 c5 rfl he0 he1 (by have := TL.out; omega) (by have h1 := LT1e.out; have h2 := BXe.out.lt; omega) ?_
      intro vB xB ho' hg hob
      clear he0 he1
      refine hK _ _ (fun h => absurd h (by decide)) ?_
      clear hK K
      refine Calm.one (i := 17) (l' := #[true, true, true, true, true, true, true, true, true, true, true, true, true, true, true, true, true, true]) (by kernel_rfl) rfl rfl rfl fun K hK => ?_
      go_simp
      refine hK _ _ (fun h => absurd h (by decide)) ?_
      clear hK K
      refine Calm.done (by kernel_rfl) ?_
      have LR2 := hide (ListR.app ho hx TV.out ho' hg)
      have HB2 := hide (below_growP HF.out.1 hg HF.out.1.size (fun g e => by have := (HF.out.2.2.lt e).1; omega))
      have HX2 : Hid (Box2 xB w.heap.size 72 (.int .i64 a) (.int .i64 b)) := hide (show xB.heap[w.heap.size]? = _ from (hg.block w.heap.size HF.out.2.1.lt (fun e => by have := (HF.out.2.2.lt e.symm).1; omega)).trans HF.out.2.1)
      clear HF ho hx ho' hg hob TV BXe
      go_wp2
      go_roundw
      case rel => exact ⟨k + 1, by omega, by go_num, HX2.out, HB2.out, by rw [TK.out]; exact LR2.out⟩
      case measure => simp [intOf]; omega
    · have e : k = n := by omega
      subst e
      go_wp2
      go_ret
      exact ⟨_, rfl, LR.out.rints, HB.out⟩

theorem sg_dec6 (z : Int) : sg (decide (z < 0)) (val (lim z.natAbs)) = z := by
  rw [val_lim]
  by_cases h : z < 0
  · rw [decide_eq_true h, sg_true]; omega
  · rw [decide_eq_false h, sg_false]; omega
theorem cmpZ_self6 (x : Int) : cmpZ x x = 0 := by unfold cmpZ; rw [if_neg (by omega), if_pos rfl]
set_option maxRecDepth 100000 in
set_option maxHeartbeats 2000000 in
theorem rsame6_yes (v1 v2 : Value) (x : Int) (w : World) (h1 : RInt w v1 x) (h2 : RInt w v2 x) :
    Calls Try.prog 73 #[v1, v2] w fun e w' => e = .returned (.bool true) ∧ Below w.heap.size w w' := by
  obtain ⟨s1, m1, n1, c1, rfl, i1⟩ : ∃ s9 m9 l9 c9, v1 = .agg #[.bool s9, .slice m9 l9 c9] ∧ RInt w (.agg #[.bool s9, .slice m9 l9 c9]) x := by obtain ⟨b, j, a, c, rfl, hx⟩ := h1; exact ⟨b, a, _, c, rfl, b, j, a, c, rfl, hx⟩
  obtain ⟨s2, m2, n2, c2, rfl, i2⟩ : ∃ s9 m9 l9 c9, v2 = .agg #[.bool s9, .slice m9 l9 c9] ∧ RInt w (.agg #[.bool s9, .slice m9 l9 c9]) x := by obtain ⟨b, j, a, c, rfl, hx⟩ := h2; exact ⟨b, a, _, c, rfl, b, j, a, c, rfl, hx⟩
  have HE := hide (nboxes2 35 w (.bool s1) (.slice m1 n1 c1) (.bool s2) (.slice m2 n2 c2))
  have I1 := hide (i1.below HE.out.2.2)
  have I2 := hide (i2.below HE.out.2.2)
  have HB := hide HE.out.2.2
  clear h1 h2 i1 i2 HE
  go_enter Try.func73, Try.ntmps73
  go_wp2_with fail
  refine (rcmp_any _ _ x x _ I1.out I2.out).mono ?_
  rintro e w1 ⟨rfl, hb⟩
  rw [cmpZ_self6]
  replace HB := hide (HB.out.trans (hb.mono HB.out.size))
  clear hb I1 I2
  go_wp2
  go_ret
  exact ⟨rfl, HB.out⟩

set_option maxRecDepth 100000 in
set_option maxHeartbeats 4000000 in
theorem is6_yes (v u : Value) (z : Int) (w : World) (h : IntAt w v z) (k : RInt w u z) (hl : (lim z.natAbs).length ≤ 1000000000) :
    Calls Try.prog 34 #[v, u] w fun e w' => e = .returned (.bool true) ∧ Below w.heap.size w w' := by
  have HL := hide hl
  obtain ⟨sx, mx, lx, cx, rfl, i1⟩ := h.cells
  obtain ⟨sy, my, ly, cy, rfl, i2⟩ : ∃ s9 m9 l9 c9, u = .agg #[.bool s9, .slice m9 l9 c9] ∧ RInt w (.agg #[.bool s9, .slice m9 l9 c9]) z := by obtain ⟨b, j, a, c, rfl, hx⟩ := k; exact ⟨b, a, _, c, rfl, b, j, a, c, rfl, hx⟩
  have PX := hide ((Box.new w (.bool sx) (.slice mx lx cx)).step (below_alloc _ (.cells #[.bool sy, .slice my ly cy] 35)))
  have PY := hide (Box2.new (w.alloc (.cells #[.bool sx, .slice mx lx cx] 31)) 35 (.bool sy) (.slice my ly cy))
  simp only [World.size_alloc] at PY
  have HB := hide ((below_alloc w (.cells #[.bool sx, .slice mx lx cx] 31)).trans ((below_alloc _ (.cells #[.bool sy, .slice my ly cy] 35)).mono (by simp only [World.size_alloc]; omega)))
  have IX := hide (i1.below HB.out)
  have IY := hide (i2.below HB.out)
  clear h k i1 i2 hl
  go_enter Try.func34, Try.ntmps34
  go_wp2_with fail
  generalize (w.alloc (.cells #[.bool sx, .slice mx lx cx] 31)).alloc (.cells #[.bool sy, .slice my ly cy] 35) = w0 at *
  refine (ilimbs_any _ z _ IX.out HL.out).mono ?_
  rintro e w1 ⟨l, rfl, nl, hb⟩
  replace HB := hide (HB.out.trans (hb.mono HB.out.size))
  replace PX := hide (PX.out.step hb)
  replace PY := hide (PY.out.step hb)
  replace IX := hide (IX.out.below hb)
  replace IY := hide (IY.out.below hb)
  have NL := hide nl
  clear hb nl
  go_wp2_with fail
  refine wp_calm (fun w' => Below w.heap.size w w' ∧ Box w' w.heap.size (.bool sx) (.slice mx lx cx) ∧ Box2 w' (w.heap.size + 1) 35 (.bool sy) (.slice my ly cy) ∧ IntAt w' (.agg #[.bool sx, .slice mx lx cx]) z ∧ RInt w' (.agg #[.bool sy, .slice my ly cy]) z ∧ Nums w' l (lim z.natAbs)) (fun _ => true) 6 #[false, false, false, false, false, false] (by kernel_rfl) rfl rfl ?_
  have HF := hide (And.intro (HB.out.drew) (And.intro (PX.out.drew) (And.intro (PY.out.drew) (And.intro (IX.out.drew) (And.intro (IY.out.drew) (NL.out.drew))))))
  generalize w1.drew = w1d at *
  refine Calm.take (i := 0) (v := ?_) (a' := ?_) (l' := #[true, false, false, false, false, false]) (d := some 12) rfl (by kernel_rfl) (by kernel_rfl) (by kernel_rfl) (by kernel_rfl) (fun _ _ _ h => h) HF.out rfl ?_ rfl rfl ?_ ?_
  rotate_left
  · intro w' hF; clear hF; go_simp; try rfl
  rotate_left
  · simp only [Act.put]; exact rfl
  refine Calm.take (i := 1) (v := ?_) (a' := ?_) (l' := #[true, true, false, false, false, false]) (d := some 13) rfl (by kernel_rfl) (by kernel_rfl) (by kernel_rfl) (by kernel_rfl) (fun _ _ _ h => h) HF.out rfl ?_ rfl rfl ?_ ?_
  rotate_left
  · intro w' hF; clear hF; go_simp; try rfl
  rotate_left
  · simp only [Act.put]; exact rfl
  refine Calm.take (i := 3) (v := ?_) (a' := ?_) (l' := #[true, true, false, true, false, false]) (d := some 15) rfl (by kernel_rfl) (by kernel_rfl) (by kernel_rfl) (by kernel_rfl) (fun _ _ _ h => h) HF.out rfl ?_ rfl rfl ?_ ?_
  rotate_left
  · intro w' hF; have f10 := hF.2.1.cell0; have f11 := hF.2.1.cell1; have f20 := hF.2.2.1.cell0; have f21 := hF.2.2.1.cell1; clear hF; go_simp; try rfl
  rotate_left
  · simp only [Act.put]; exact rfl
  refine Calm.one (i := 2) (l' := #[true, true, true, true, false, false]) (by kernel_rfl) rfl rfl rfl fun K hK => ?_
  go_simp
  refine (rmake_any _ _ _ _ HF.out.2.2.2.2.2 HL.out).mono ?_
  rintro e u1 ⟨v, rfl, n, hb⟩
  rw [sg_dec6] at n
  have HF' := hide (And.intro (HF.out.1.trans ((hb).mono HF.out.1.size)) (And.intro (HF.out.2.1.step (hb)) (And.intro (HF.out.2.2.1.step (hb)) (And.intro (HF.out.2.2.2.1.below (hb)) (And.intro (HF.out.2.2.2.2.1.below (hb)) (HF.out.2.2.2.2.2.below (hb)))))))
  have TM := hide (n)
  refine hK _ _ (fun _ => HF'.out) ?_
  clear hK K HF hb n
  have HF := hide HF'.out
  clear HF'
  refine Calm.one (i := 4) (l' := #[true, true, true, true, true, false]) (by kernel_rfl) rfl rfl rfl fun K hK => ?_
  go_simp
  refine (rsame6_yes _ _ z _ TM.out HF.out.2.2.2.2.1).mono ?_
  rintro e u2 ⟨rfl, hb⟩
  clear TM
  have HF' := hide (And.intro (HF.out.1.trans ((hb).mono HF.out.1.size)) (And.intro (HF.out.2.1.step (hb)) (And.intro (HF.out.2.2.1.step (hb)) (And.intro (HF.out.2.2.2.1.below (hb)) (And.intro (HF.out.2.2.2.2.1.below (hb)) (HF.out.2.2.2.2.2.below (hb)))))))
  refine hK _ _ (fun _ => HF'.out) ?_
  clear hK K HF hb
  have HF := hide HF'.out
  clear HF'
  refine Calm.take (i := 5) (v := ?_) (a' := ?_) (l' := #[true, true, true, true, true, true]) (d := some 4) rfl (by kernel_rfl) (by kernel_rfl) (by kernel_rfl) (by kernel_rfl) (fun _ _ _ h => h) HF.out rfl ?_ rfl rfl ?_ ?_
  rotate_left
  · intro w' hF; clear hF; go_simp; try rfl
  rotate_left
  · simp only [Act.put]; exact rfl
  refine Calm.done (by kernel_rfl) ?_
  replace HB := hide HF.out.1
  clear HF
  go_wp2
  go_ret
  exact ⟨rfl, HB.out⟩
end Go.Proofs.Ytlockdhhidghdab
