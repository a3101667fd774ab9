/- swageref04's Combine, Add, Sub, Scale, Dot. -/
import Derived.Test.YtejkjdjobeabfaaWOver
import Derived.Test.YtejkjdjobeabfaaCalmL
import Derived.Test.YtejkjdjobeabfaaWOf
import Derived.Test.YtejkjdjobeabfaaWCmp
import Derived.Test.YtejkjdjobeabfaaR2Mul
import Derived.Test.YtejkjdjobeabfaaR2Law
import Derived.Test.YtejkjdjobeabfaaR2Num
namespace Go.Proofs.Ytejkjdjobeabfaa
open Go.RowKit

/-- a word and a struct of two cells are handed back -/
theorem ret_sl {fn : Func} {R : Ending → World → Prop} {a : Act} {w : World} {p u : Tmp} (h : fn.results = #[.tmp u, .cell p 36]) (g : Nat) (x y : Value)
    (hp : a.tmps.getD p undef = .pointer (some ⟨g, 0, none⟩)) (hg : Box w g x y) (hd : a.defers = []) (hR : R (.returned (.tuple #[a.tmps.getD u undef, .agg #[x, y]])) w) : bodyPost Try.prog fn R .ret a w := by
  refine bodyPost_ret ?_ hd hR
  have hp' : a.tmps[p]?.getD undef = .pointer (some ⟨g, 0, none⟩) := by simpa using hp
  simp [results, h, hp', asAddr, run_loadVar_row w g 36 36 #[x, y] (0, 0) _ hg Try.underlying36 rfl Try.infoInt]
theorem IRow.off {w : World} {b C : Nat} {zs : List Int} {x y : Value} (h : IRow w b zs) (hC : Box w C x y) (hx : ∀ z, x ≠ .int .u32 z) (hy : ∀ z, y ≠ .int .u32 z) (hne : b ≠ C) (x' y' : Value) : IRow ((w.setCell ⟨C, 0, none⟩ x').setCell ⟨C, 1, none⟩ y') b zs := by
  refine ⟨fun i hi => ?_, fun o => by rw [World.frozen?_setCell, World.frozen?_setCell]; exact h.free o, by simpa using h.lt⟩
  obtain ⟨s, m, n, c, h1, h2, h3⟩ := h.cells i hi
  exact ⟨s, m, n, c, ((CellAt.mk h1).put (B := C) hne x' y').out, ((CellAt.mk h2).put (B := C) hne x' y').out, h3.keep (hC.keeps hx hy x' y')⟩

theorem gcdTo_dvd (zs : List Int) : ∀ k i, i < k → (gcdTo zs k : Int) ∣ zs.getD i 0
  | 0, _, h => by omega
  | k + 1, i, h => by
    show ((Int.gcd (gcdTo zs k : Int) (zs.getD k 0) : Nat) : Int) ∣ _
    rcases Nat.lt_succ_iff_lt_or_eq.1 h with l | rfl
    · exact Int.dvd_trans (Int.gcd_dvd_left _ _) (gcdTo_dvd zs k i l)
    · exact Int.gcd_dvd_right _ _
theorem gcdTo_great (zs : List Int) (d : Int) : ∀ k, (∀ i, i < k → d ∣ zs.getD i 0) → d ∣ (gcdTo zs k : Int)
  | 0, _ => ⟨0, by simp [gcdTo]⟩
  | k + 1, h => Int.dvd_coe_gcd (gcdTo_great zs d k fun i hi => h i (by omega)) (h k (by omega))
theorem overE_zero {zs : List Int} {c : Int} : ∀ k, (∀ i, i < k → c ∣ zs.getD i 0) → overE zs c k = 0
  | 0, _ => rfl
  | k + 1, h => by
    show (if zs.getD k 0 % c = 0 then overE zs c k else 20) = 0
    rw [if_pos (Int.emod_eq_zero_of_dvd (h k (by omega)))]
    exact overE_zero k fun i hi => h i (by omega)
/-- the content, with the sign of the first number -/
def contS (zs : List Int) : Int := if leadI zs < 0 then -(gcdTo zs zs.length : Int) else (gcdTo zs zs.length : Int)
theorem contS_abs (zs : List Int) : (contS zs).natAbs = gcdTo zs zs.length := by unfold contS; split <;> simp
theorem contS_dvd (zs : List Int) (i : Nat) (h : i < zs.length) : contS zs ∣ zs.getD i 0 := by
  have := gcdTo_dvd zs zs.length i h
  unfold contS; split
  · exact Int.neg_dvd.2 this
  · exact this
def primL (zs : List Int) : List Int := if gcdTo zs zs.length = 0 then List.replicate zs.length 0 else (List.range zs.length).map fun i => zs.getD i 0 / contS zs
theorem primL_len (zs : List Int) : (primL zs).length = zs.length := by unfold primL; split <;> simp

/-- what Primitive answers -/
def PrimP (zs : List Int) (w : World) (e : Ending) (w' : World) : Prop := ∃ b v, e = .returned (.tuple #[.slice (some ⟨b, 0, none⟩) zs.length zs.length, v]) ∧ w.heap.size ≤ b ∧ IRow w' b (primL zs) ∧ IntAt w' v (contS zs) ∧ Below w.heap.size w w'

set_option maxRecDepth 100000 in
set_option maxHeartbeats 8000000 in
theorem prim_any (va : Value) (zs : List Int) (K : Nat) (w : World) (h : Ints w va zs) (hm : zs.length ≤ 4000000000) (hs : SzL K zs) (hK : K ≤ 1000000000) :
    Calls Try.prog 29 #[va] w fun e w' => PrimP zs w e w' := by
  have H0 := hide h
  have HA := hide h
  have HS := hide hs
  have SC : Hid (SzI K (contS zs)) := hide (by have := gcdTo_sz hs zs.length; unfold SzI at this ⊢; rw [contS_abs]; simpa using this)
  have HC : Hid (contS zs = if leadI zs < 0 then -(gcdTo zs zs.length : Int) else (gcdTo zs zs.length : Int)) := rfl
  obtain ⟨a, cap, rfl, hcap, hmx, _⟩ := h
  unfold maxLen at hmx
  have RG := hide (Box.new w (.bool false) (.slice none 0 0))
  have HB := hide (below_alloc w (.cells #[.bool false, .slice none 0 0] 36))
  replace HA := hide (HA.out.below HB.out)
  clear hs
  go_enter Try.func29, Try.ntmps29
  go_wp2_with fail
  generalize w.alloc (.cells #[.bool false, .slice none 0 0] 36) = w0 at *
  refine (content_any _ zs K _ HA.out HS.out hK).mono ?_
  rintro e w1 ⟨v, rfl, n, hb⟩
  obtain ⟨s1, m1, l1, c1, rfl, n⟩ := n.cells
  replace RG := hide (RG.out.step hb)
  replace HB := hide (HB.out.trans (hb.mono HB.out.size))
  replace HA := hide (HA.out.below hb)
  have IG := hide n
  clear hb n
  go_upto_region 2 with fail
  have hb := below_alloc w1 (.cells #[.bool s1, .slice m1 l1 c1] 36)
  have GV := hide (Box.new w1 (.bool s1) (.slice m1 l1 c1))
  have LTG := hide RG.out.lt
  replace RG := hide (RG.out.step hb)
  replace HB := hide (HB.out.trans (hb.mono HB.out.size))
  replace HA := hide (HA.out.below hb)
  replace IG := hide (IG.out.below hb)
  clear hb
  generalize w1.alloc (.cells #[.bool s1, .slice m1 l1 c1] 36) = w2 at *
  generalize w1.heap.size = gg at *
  go_wp2_with fail
  refine (rlead_any _ zs _ HA.out).mono ?_
  rintro e w3 ⟨rfl, hb⟩
  replace RG := hide (RG.out.step hb)
  replace GV := hide (GV.out.step hb)
  replace HB := hide (HB.out.trans (hb.mono HB.out.size))
  replace HA := hide (HA.out.below hb)
  replace IG := hide (IG.out.below hb)
  clear hb
  by_cases hl : leadI zs < 0
  · rw [if_pos hl] at HC
    have c0 := GV.out.cell0
    have c1' := GV.out.cell1
    go_wp2_with fail
    refine (ineg_any _ _ _ IG.out).mono ?_
    rintro e w4 ⟨v, rfl, n, hb⟩
    obtain ⟨s2, m2, l2, c2, rfl, n⟩ := n.cells
    replace RG := hide (RG.out.step hb)
    replace GV := hide (GV.out.step hb)
    replace HB := hide (HB.out.trans (hb.mono HB.out.size))
    replace HA := hide (HA.out.below hb)
    have IG2 := hide n
    clear hb n c0 c1' IG
    rw [← HC.out] at IG2
    have d0 := GV.out.cell0
    have d1 := GV.out.cell1
    have f0 := GV.out.free 0
    have f1 := GV.out.free 1
    go_upto_region 4 with fail
    have KP := hide (GV.out.keeps (by simp) (by simp) (.bool s2) (.slice m2 l2 c2))
    replace RG := hide (RG.out.other (C := gg) (by have := LTG.out; omega) (.bool s2) (.slice m2 l2 c2))
    replace HB := hide (below_put HB.out (show w.heap.size ≤ gg by have := LTG.out; omega) (.bool s2) (.slice m2 l2 c2))
    replace HA := hide (H0.out.below HB.out)
    replace IG2 := hide (IG2.out.keep KP.out)
    replace GV := hide (GV.out.put (.bool s2) (.slice m2 l2 c2))
    clear d0 d1 f0 f1 KP
    generalize (w4.setCell ⟨gg, 0, none⟩ (.bool s2)).setCell ⟨gg, 1, none⟩ (.slice m2 l2 c2) = w5 at *
    by_cases hz : gcdTo zs zs.length = 0
    · have HP : Hid (primL zs = List.replicate zs.length 0) := if_pos hz
      have HZ0 : contS zs = 0 := by have := contS_abs zs; omega
      rw [HZ0] at IG2
      have c0 := GV.out.cell0
      have c1' := GV.out.cell1
      go_wp2_with fail
      refine (roverL_zero _ _ zs _ HA.out IG2.out).mono ?_
      rintro e v1 ⟨rfl, hb⟩
      clear c0 c1'
      replace RG := hide (RG.out.step hb)
      replace GV := hide (GV.out.step hb)
      replace HB := hide (HB.out.trans (hb.mono HB.out.size))
      replace HA := hide (HA.out.below hb)
      replace IG2 := hide (IG2.out.below hb)
      clear hb
      go_upto_region 6 with fail
      refine wp_calm (fun w' => Below w.heap.size w w' ∧ Box w' gg (.bool s2) (.slice m2 l2 c2) ∧ Box w' w.heap.size (.bool false) (.slice none 0 0) ∧ IntAt w' (.agg #[.bool s2, .slice m2 l2 c2]) 0) (fun j => j != 5) 6 #[false, false, false, false, false, false] (by kernel_rfl) rfl rfl ?_
      have HF := hide (And.intro (HB.out.drew) (And.intro (GV.out.drew) (And.intro (RG.out.drew) (IG2.out.drew))))
      generalize v1.drew = v1d at *
      refine Calm.takeL 6 (i := 0) (v := ?_) (a' := ?_) (l' := #[true, false, false, false, false, false]) (d := some 22) (by kernel_rfl) rfl (by kernel_rfl) (by kernel_rfl) (by kernel_rfl) (by kernel_rfl) (fun _ _ _ h => h) HF.out rfl ?_ rfl rfl ?_ ?_
      rotate_left
      · intro w' hF; clear hF; go_simp; try rfl
      rotate_left
      · simp only [Act.put]; exact rfl
      refine Calm.takeL 6 (i := 1) (v := ?_) (a' := ?_) (l' := #[true, true, false, false, false, false]) (d := some 23) (by kernel_rfl) rfl (by kernel_rfl) (by kernel_rfl) (by kernel_rfl) (by kernel_rfl) (fun _ _ _ h => h) HF.out rfl ?_ rfl rfl ?_ ?_
      rotate_left
      · intro w' hF; clear hF; go_simp; try rfl
      rotate_left
      · simp only [Act.put]; exact rfl
      refine Calm.takeL 6 (i := 3) (v := ?_) (a' := ?_) (l' := #[true, true, false, true, false, false]) (d := some 25) (by kernel_rfl) rfl (by kernel_rfl) (by kernel_rfl) (by kernel_rfl) (by kernel_rfl) (fun _ _ _ h => h) HF.out rfl ?_ rfl rfl ?_ ?_
      rotate_left
      · intro w' hF; have f10 := hF.2.1.cell0; have f11 := hF.2.1.cell1; have f20 := hF.2.2.1.cell0; have f21 := hF.2.2.1.cell1; clear hF; go_simp; try rfl
      rotate_left
      · simp only [Act.put]; exact rfl
      refine Calm.one (i := 2) (l' := #[true, true, true, true, false, false]) (by kernel_rfl) rfl rfl rfl fun K hK => ?_
      go_simp
      refine (noughts_any zs.length _ hm).mono ?_
      rintro e u1 ⟨rfl, hr, hb⟩
      have GE1 := hide HF.out.2.2.1.lt
      have HF' := hide (And.intro (HF.out.1.trans ((hb).mono HF.out.1.size)) (And.intro (HF.out.2.1.step (hb)) (And.intro (HF.out.2.2.1.step (hb)) (HF.out.2.2.2.below (hb)))))
      have TR := hide (hr)
      refine hK _ _ (fun _ => HF'.out) ?_
      clear hK K HF hb hr
      have HF := hide HF'.out
      clear HF'
      refine Calm.takeL 6 (i := 4) (v := ?_) (a' := ?_) (l' := #[true, true, true, true, true, false]) (d := some 2) (by kernel_rfl) rfl (by kernel_rfl) (by kernel_rfl) (by kernel_rfl) (by kernel_rfl) (fun _ _ _ h => h) HF.out rfl ?_ rfl rfl ?_ ?_
      rotate_left
      · intro w' hF; clear hF; go_simp; try rfl
      rotate_left
      · simp only [Act.put]; exact rfl
      refine Calm.one (i := 5) (l' := #[true, true, true, true, true, true]) (by kernel_rfl) rfl rfl rfl fun K hK => ?_
      have d0 := HF.out.2.2.1.cell0
      have d1 := HF.out.2.2.1.cell1
      have f0 := HF.out.2.2.1.free 0
      have f1 := HF.out.2.2.1.free 1
      go_simp
      refine hK _ _ (fun h => absurd h (by decide)) ?_
      clear hK K
      refine Calm.done (by kernel_rfl) ?_
      go_wp2
      refine ret_sl rfl w.heap.size _ _ rfl ((HF.out.2.2.1.set0 _).set1 _) rfl ?_
      exact ⟨_, _, rfl, by have := GE1.out; omega, by rw [HP.out]; exact TR.out.off HF.out.2.2.1 (by simp) (by simp) (by have := GE1.out; omega) _ _, by rw [HZ0]; exact HF.out.2.2.2.keep (HF.out.2.2.1.keeps (by simp) (by simp) _ _), below_put HF.out.1 (Nat.le_refl _) _ _⟩
    · have HP : Hid (primL zs = (List.range zs.length).map fun i => zs.getD i 0 / contS zs) := if_neg hz
      have HNZ : Hid (contS zs ≠ 0) := hide (fun e => hz (by rw [← contS_abs, e]; rfl))
      have HE := hide (overE_zero zs.length (fun i hi => contS_dvd zs i hi))
      have c0 := GV.out.cell0
      have c1' := GV.out.cell1
      go_wp2_with fail
      refine (roverL_any _ _ zs (contS zs) K _ HA.out IG2.out HNZ.out hm HS.out SC.out hK).mono ?_
      intro e v1 hov
      rcases hov with ⟨_, b, rfl, hge, hr, hb⟩ | ⟨h20, _⟩
      rotate_left
      · rw [HE.out] at h20; exact absurd h20 (by decide)
      clear c0 c1'
      have GE1 := hide (Nat.lt_of_lt_of_le RG.out.lt hge)
      have TR := hide hr
      clear hr hge
      replace RG := hide (RG.out.step hb)
      replace GV := hide (GV.out.step hb)
      replace HB := hide (HB.out.trans (hb.mono HB.out.size))
      replace IG2 := hide (IG2.out.below hb)
      clear hb HA
      go_upto_region 7 with fail
      have c0 := GV.out.cell0
      have c1' := GV.out.cell1
      have d0 := RG.out.cell0
      have d1 := RG.out.cell1
      have f0 := RG.out.free 0
      have f1 := RG.out.free 1
      go_region
      go_wp2
      refine ret_sl rfl w.heap.size _ _ rfl ((RG.out.drew.set0 _).set1 _) rfl ?_
      exact ⟨_, _, rfl, by have := GE1.out; omega, by rw [HP.out]; exact (TR.out.off RG.out (by simp) (by simp) (by have := GE1.out; omega) _ _).drew, (IG2.out.keep (RG.out.keeps (by simp) (by simp) _ _)).drew, (below_put HB.out (Nat.le_refl _) _ _).drew⟩
  · rw [if_neg hl] at HC
    rw [← HC.out] at IG
    go_upto_region 4 with fail
    by_cases hz : gcdTo zs zs.length = 0
    · have HP : Hid (primL zs = List.replicate zs.length 0) := if_pos hz
      have HZ0 : contS zs = 0 := by have := contS_abs zs; omega
      rw [HZ0] at IG
      have c0 := GV.out.cell0
      have c1' := GV.out.cell1
      go_wp2_with fail
      refine (roverL_zero _ _ zs _ HA.out IG.out).mono ?_
      rintro e v1 ⟨rfl, hb⟩
      clear c0 c1'
      replace RG := hide (RG.out.step hb)
      replace GV := hide (GV.out.step hb)
      replace HB := hide (HB.out.trans (hb.mono HB.out.size))
      replace HA := hide (HA.out.below hb)
      replace IG := hide (IG.out.below hb)
      clear hb
      go_upto_region 6 with fail
      refine wp_calm (fun w' => Below w.heap.size w w' ∧ Box w' gg (.bool s1) (.slice m1 l1 c1) ∧ Box w' w.heap.size (.bool false) (.slice none 0 0) ∧ IntAt w' (.agg #[.bool s1, .slice m1 l1 c1]) 0) (fun j => j != 5) 6 #[false, false, false, false, false, false] (by kernel_rfl) rfl rfl ?_
      have HF := hide (And.intro (HB.out.drew) (And.intro (GV.out.drew) (And.intro (RG.out.drew) (IG.out.drew))))
      generalize v1.drew = v1d at *
      refine Calm.takeL 6 (i := 0) (v := ?_) (a' := ?_) (l' := #[true, false, false, false, false, false]) (d := some 22) (by kernel_rfl) rfl (by kernel_rfl) (by kernel_rfl) (by kernel_rfl) (by kernel_rfl) (fun _ _ _ h => h) HF.out rfl ?_ rfl rfl ?_ ?_
      rotate_left
      · intro w' hF; clear hF; go_simp; try rfl
      rotate_left
      · simp only [Act.put]; exact rfl
      refine Calm.takeL 6 (i := 1) (v := ?_) (a' := ?_) (l' := #[true, true, false, false, false, false]) (d := some 23) (by kernel_rfl) rfl (by kernel_rfl) (by kernel_rfl) (by kernel_rfl) (by kernel_rfl) (fun _ _ _ h => h) HF.out rfl ?_ rfl rfl ?_ ?_
      rotate_left
      · intro w' hF; clear hF; go_simp; try rfl
      rotate_left
      · simp only [Act.put]; exact rfl
      refine Calm.takeL 6 (i := 3) (v := ?_) (a' := ?_) (l' := #[true, true, false, true, false, false]) (d := some 25) (by kernel_rfl) rfl (by kernel_rfl) (by kernel_rfl) (by kernel_rfl) (by kernel_rfl) (fun _ _ _ h => h) HF.out rfl ?_ rfl rfl ?_ ?_
      rotate_left
      · intro w' hF; have f10 := hF.2.1.cell0; have f11 := hF.2.1.cell1; have f20 := hF.2.2.1.cell0; have f21 := hF.2.2.1.cell1; clear hF; go_simp; try rfl
      rotate_left
      · simp only [Act.put]; exact rfl
      refine Calm.one (i := 2) (l' := #[true, true, true, true, false, false]) (by kernel_rfl) rfl rfl rfl fun K hK => ?_
      go_simp
      refine (noughts_any zs.length _ hm).mono ?_
      rintro e u1 ⟨rfl, hr, hb⟩
      have GE1 := hide HF.out.2.2.1.lt
      have HF' := hide (And.intro (HF.out.1.trans ((hb).mono HF.out.1.size)) (And.intro (HF.out.2.1.step (hb)) (And.intro (HF.out.2.2.1.step (hb)) (HF.out.2.2.2.below (hb)))))
      have TR := hide (hr)
      refine hK _ _ (fun _ => HF'.out) ?_
      clear hK K HF hb hr
      have HF := hide HF'.out
      clear HF'
      refine Calm.takeL 6 (i := 4) (v := ?_) (a' := ?_) (l' := #[true, true, true, true, true, false]) (d := some 2) (by kernel_rfl) rfl (by kernel_rfl) (by kernel_rfl) (by kernel_rfl) (by kernel_rfl) (fun _ _ _ h => h) HF.out rfl ?_ rfl rfl ?_ ?_
      rotate_left
      · intro w' hF; clear hF; go_simp; try rfl
      rotate_left
      · simp only [Act.put]; exact rfl
      refine Calm.one (i := 5) (l' := #[true, true, true, true, true, true]) (by kernel_rfl) rfl rfl rfl fun K hK => ?_
      have d0 := HF.out.2.2.1.cell0
      have d1 := HF.out.2.2.1.cell1
      have f0 := HF.out.2.2.1.free 0
      have f1 := HF.out.2.2.1.free 1
      go_simp
      refine hK _ _ (fun h => absurd h (by decide)) ?_
      clear hK K
      refine Calm.done (by kernel_rfl) ?_
      go_wp2
      refine ret_sl rfl w.heap.size _ _ rfl ((HF.out.2.2.1.set0 _).set1 _) rfl ?_
      exact ⟨_, _, rfl, by have := GE1.out; omega, by rw [HP.out]; exact TR.out.off HF.out.2.2.1 (by simp) (by simp) (by have := GE1.out; omega) _ _, by rw [HZ0]; exact HF.out.2.2.2.keep (HF.out.2.2.1.keeps (by simp) (by simp) _ _), below_put HF.out.1 (Nat.le_refl _) _ _⟩
    · have HP : Hid (primL zs = (List.range zs.length).map fun i => zs.getD i 0 / contS zs) := if_neg hz
      have HNZ : Hid (contS zs ≠ 0) := hide (fun e => hz (by rw [← contS_abs, e]; rfl))
      have HE := hide (overE_zero zs.length (fun i hi => contS_dvd zs i hi))
      have c0 := GV.out.cell0
      have c1' := GV.out.cell1
      go_wp2_with fail
      refine (roverL_any _ _ zs (contS zs) K _ HA.out IG.out HNZ.out hm HS.out SC.out hK).mono ?_
      intro e v1 hov
      rcases hov with ⟨_, b, rfl, hge, hr, hb⟩ | ⟨h20, _⟩
      rotate_left
      · rw [HE.out] at h20; exact absurd h20 (by decide)
      clear c0 c1'
      have GE1 := hide (Nat.lt_of_lt_of_le RG.out.lt hge)
      have TR := hide hr
      clear hr hge
      replace RG := hide (RG.out.step hb)
      replace GV := hide (GV.out.step hb)
      replace HB := hide (HB.out.trans (hb.mono HB.out.size))
      replace IG := hide (IG.out.below hb)
      clear hb HA
      go_upto_region 7 with fail
      have c0 := GV.out.cell0
      have c1' := GV.out.cell1
      have d0 := RG.out.cell0
      have d1 := RG.out.cell1
      have f0 := RG.out.free 0
      have f1 := RG.out.free 1
      go_region
      go_wp2
      refine ret_sl rfl w.heap.size _ _ rfl ((RG.out.drew.set0 _).set1 _) rfl ?_
      exact ⟨_, _, rfl, by have := GE1.out; omega, by rw [HP.out]; exact (TR.out.off RG.out (by simp) (by simp) (by have := GE1.out; omega) _ _).drew, (IG.out.keep (RG.out.keeps (by simp) (by simp) _ _)).drew, (below_put HB.out (Nat.le_refl _) _ _).drew⟩
end Go.Proofs.Ytejkjdjobeabfaa

namespace Go.Proofs.Ytejkjdjobeabfaa
open Go.RowKit

/-- lists of numbers as they are handed in -/
def NumLL (w : World) (v : Value) (nss : List (List (Bool × List Nat))) : Prop :=
  ∃ a cap, v = .slice a nss.length cap ∧ nss.length ≤ cap ∧ cap ≤ maxLen ∧ (nss ≠ [] → ∃ b off, a = some ⟨b, off, none⟩ ∧ ∀ i, i < nss.length → ∃ u, w.cell? ⟨b, off + i, none⟩ = some u ∧ NumL w u (nss.getD i []))
theorem NumLL.at {w : World} {a : Option Addr} {n cap : Nat} {nss : List (List (Bool × List Nat))} (h : NumLL w (.slice a n cap) nss) {i : Nat} (hi : i < nss.length) :
    ∃ b off, a = some ⟨b, off, none⟩ ∧ ∃ m l c, w.cell? ⟨b, off + i, none⟩ = some (.slice m l c) ∧ l = (nss.getD i []).length ∧ c ≤ 140737488355328 ∧ l ≤ c ∧ NumL w (.slice m l c) (nss.getD i []) := by
  obtain ⟨a', c', he, _, _, h3⟩ := h
  simp only [Value.slice.injEq] at he
  obtain ⟨rfl, _, rfl⟩ := he
  obtain ⟨b, off, rfl, h⟩ := h3 (by intro e; rw [e] at hi; simp at hi)
  obtain ⟨u, k1, k2⟩ := h i hi
  obtain ⟨a2, c2, rfl, q1, q2, _, _⟩ := id k2
  exact ⟨b, off, rfl, a2, _, c2, k1, rfl, q2, q1, k2⟩
/-- not more than 300 -/
def Few (ns : List (Bool × List Nat)) : Prop := ns.length ≤ 300 ∧ ∀ q, q < ns.length → (ns.getD q (false, [])).2.length ≤ 300
def LongB (e : Ending) (nss : List (List (Bool × List Nat))) : Prop := ∃ r, e = .returned (.bool r) ∧ (r = false → ∀ i, i < nss.length → Few (nss.getD i []))

set_option maxRecDepth 100000 in
set_option maxHeartbeats 8000000 in
theorem rlong_any (va : Value) (nss : List (List (Bool × List Nat))) (w : World) (h : NumLL w va nss) :
    Calls Try.prog 6 #[va] w fun e w' => LongB e nss ∧ w' = w := by
  have HI := hide h
  obtain ⟨a, cap, rfl, hcap, hm, _⟩ := h
  unfold maxLen at hm
  go_enter Try.func6, Try.ntmps6
  go_wp2
  go_loopw [3, 4, 5] (fun nv iv _ wr => ∃ i n : Nat, i ≤ nss.length ∧ n ≤ 300 ∧ iv = .int .i64 i ∧ nv = .int .i64 n ∧ wr = w ∧ ∀ j, j < i → Few (nss.getD j [])) (fun _ iv _ _ => nss.length - (intOf iv).toNat)
  case atStart => exact ⟨0, 0, Nat.zero_le _, Nat.zero_le _, rfl, rfl, rfl, fun j h => absurd h (Nat.not_lt_zero _)⟩
  case round =>
    obtain ⟨i, n, hi, hn, rfl, rfl, hwr, hf⟩ := hrel
    obtain rfl : w = wr := hwr.symm
    clear hwr
    have HF := hide hf
    clear hf
    by_cases hlt : i < nss.length
    · obtain ⟨b, off, rfl, m, l, c, k1, k2, k3, k4, k5⟩ := HI.out.at hlt
      have HN := hide k5
      have HL := hide k2
      clear k5 k2
      by_cases hs : 300 < n + l
      · have hs' : (300 : Int) < (n : Int) + (l : Int) := by omega
        go_wp2
        go_ret
        exact ⟨⟨true, rfl, fun h => by cases h⟩, rfl⟩
      · have hs' : ¬ (300 : Int) < (n : Int) + (l : Int) := by omega
        have HS : Hid (l ≤ 300) := hide (by omega)
        go_wp2
        go_loopw [3, 5] (fun nv kv wr => ∃ k n : Nat, k ≤ l ∧ n ≤ 300 ∧ kv = .int .i64 k ∧ nv = .int .i64 n ∧ wr = w ∧ ∀ q, q < k → ((nss.getD i []).getD q (false, [])).2.length ≤ 300) (fun _ kv _ => l - (intOf kv).toNat)
        case atStart => exact ⟨0, n + l, Nat.zero_le _, by omega, rfl, by go_num, rfl, fun j h => absurd h (Nat.not_lt_zero _)⟩
        case round =>
          obtain ⟨k, n', hk, hn', rfl, rfl, hwr, hf⟩ := hrel
          obtain rfl : w = wr := hwr.symm
          clear hwr
          have HQ := hide hf
          clear hf hs hs'
          by_cases hlt2 : k < l
          · obtain ⟨b2, off2, rfl, s, m2, l2, c2, xs, q1, q2, q3, q4⟩ := HN.out.at (by rw [← HL.out]; exact hlt2)
            have e1 := q2.out
            have LX : Hid (l2 = xs.length ∧ l2 ≤ 140737488355328) := hide (by
              obtain ⟨_, _, _, he, _⟩ := q3
              obtain ⟨_, _, _, _, _, hbd, _⟩ := HN.out
              have h1 := hbd k
              rw [q4] at h1
              simp only [Value.slice.injEq] at he
              obtain ⟨_, rfl, _⟩ := he
              exact ⟨rfl, h1⟩)
            have HX := hide q4
            have hlb := LX.out.2
            clear q1 q2 q3 q4
            by_cases hs2 : 300 < n' + l2
            · have hs3 : (300 : Int) < (n' : Int) + (l2 : Int) := by omega
              go_wp2
              go_ret
              exact ⟨⟨true, rfl, fun h => by cases h⟩, rfl⟩
            · have hs3 : ¬ (300 : Int) < (n' : Int) + (l2 : Int) := by omega
              go_wp2
              go_roundw
              case rel => exact ⟨k + 1, n' + l2, by omega, by omega, by go_num, by go_num, by first | trivial | rfl, fun q hq => by
                rcases Nat.lt_or_ge q k with h | h
                · exact HQ.out q h
                · have e : q = k := by omega
                  subst e
                  rw [HX.out]
                  show xs.length ≤ 300
                  have := LX.out.1
                  omega⟩
              case measure => simp [intOf]; omega
          · have e : k = l := by omega
            subst e
            go_wp2
            go_roundw
            case rel => exact ⟨i + 1, n', by omega, hn', by go_num, rfl, by first | trivial | rfl, fun j hj => by
              rcases Nat.lt_or_ge j i with h | h
              · exact HF.out j h
              · have e : j = i := by omega
                subst e
                exact ⟨by have := HL.out; have := HS.out; omega, fun q hq => HQ.out q (by rw [HL.out]; exact hq)⟩⟩
            case measure => simp [intOf]; omega
    · have e : i = nss.length := by omega
      subst e
      go_wp2
      go_ret
      exact ⟨⟨false, rfl, fun _ => HF.out⟩, rfl⟩
end Go.Proofs.Ytejkjdjobeabfaa

namespace Go.Proofs.Ytejkjdjobeabfaa
open Go.RowKit

theorem getD_map (f : Nat → Int) (n i : Nat) : ((List.range n).map f).getD i 0 = if i < n then f i else 0 := by
  by_cases h : i < n
  · rw [if_pos h]; simp [h]
  · rw [if_neg h]; simp [h]
theorem getD_over {xs : List Int} {i : Nat} (h : xs.length ≤ i) : xs.getD i 0 = 0 := by rw [List.getD_eq_getElem?_getD, List.getElem?_eq_none h]; rfl
theorem list_ext {xs ys : List Int} (hl : xs.length = ys.length) (h : ∀ i, i < xs.length → xs.getD i 0 = ys.getD i 0) : xs = ys := by
  apply List.ext_getElem hl
  intro i h1 h2
  have := h i h1
  simpa [h1, h2] using this
def scL (xs : List Int) (z : Int) : List Int := (List.range xs.length).map fun i => xs.getD i 0 * z
def adL (xs ys : List Int) : List Int := (List.range xs.length).map fun i => xs.getD i 0 + ys.getD i 0
def cbL (c : Int) (xs : List Int) (d : Int) (ys : List Int) : List Int := (List.range xs.length).map fun i => c * xs.getD i 0 + d * ys.getD i 0
def dotL (xs ys : List Int) : Int := accZ (· + ·) 0 ((List.range xs.length).map fun i => xs.getD i 0 * ys.getD i 0) xs.length
theorem scL_len (xs : List Int) (z : Int) : (scL xs z).length = xs.length := by simp [scL]
theorem adL_len (xs ys : List Int) : (adL xs ys).length = xs.length := by simp [adL]
theorem cbL_len (c d : Int) (xs ys : List Int) : (cbL c xs d ys).length = xs.length := by simp [cbL]
theorem scL_at (xs : List Int) (z : Int) (i : Nat) : (scL xs z).getD i 0 = xs.getD i 0 * z := by
  unfold scL; rw [getD_map]; split
  · rfl
  · rw [getD_over (by omega), Int.zero_mul]
theorem adL_at {xs ys : List Int} (hl : ys.length = xs.length) (i : Nat) : (adL xs ys).getD i 0 = xs.getD i 0 + ys.getD i 0 := by
  unfold adL; rw [getD_map]; split
  · rfl
  · rw [getD_over (xs := xs) (by omega), getD_over (xs := ys) (by omega)]; rfl
theorem cbL_at {c d : Int} {xs ys : List Int} (hl : ys.length = xs.length) (i : Nat) : (cbL c xs d ys).getD i 0 = c * xs.getD i 0 + d * ys.getD i 0 := by
  unfold cbL; rw [getD_map]; split
  · rfl
  · rw [getD_over (xs := xs) (by omega), getD_over (xs := ys) (by omega)]; simp
theorem cmpL_self : ∀ (xs : List Int), cmpL xs xs = 0
  | [] => rfl
  | x :: r => by show (if x = x then cmpL r r else cmpZ x x) = 0; rw [if_pos rfl]; exact cmpL_self r
theorem rowCmp_self {xs ys : List Int} (h : xs = ys) : (rowCmp xs ys == 0) = true := by subst h; unfold rowCmp; rw [if_pos rfl, cmpL_self]; rfl
theorem scale_add {xs ys : List Int} (hl : ys.length = xs.length) (m : Int) : scL (adL xs ys) m = adL (scL xs m) (scL ys m) := by
  refine list_ext (by rw [scL_len, adL_len, adL_len, scL_len]) fun i _ => ?_
  rw [scL_at, adL_at hl, adL_at (by rw [scL_len, scL_len]; exact hl), scL_at, scL_at, Int.add_mul]
theorem dot_at (xs ys : List Int) (n i : Nat) (h : xs.length = n) : ((List.range n).map fun i => xs.getD i 0 * ys.getD i 0).getD i 0 = xs.getD i 0 * ys.getD i 0 := by
  rw [getD_map]; split
  · rfl
  · rw [getD_over (xs := xs) (by omega), Int.zero_mul]
theorem dot_comb {xs ys : List Int} (hl : ys.length = xs.length) (c d : Int) : dotL (cbL c xs d ys) ys = c * dotL xs ys + d * dotL ys ys := by
  unfold dotL
  rw [cbL_len, hl]
  generalize hn : xs.length = n at *
  have key : ∀ k, accZ (· + ·) 0 ((List.range n).map fun i => (cbL c xs d ys).getD i 0 * ys.getD i 0) k = c * accZ (· + ·) 0 ((List.range n).map fun i => xs.getD i 0 * ys.getD i 0) k + d * accZ (· + ·) 0 ((List.range n).map fun i => ys.getD i 0 * ys.getD i 0) k := by
    intro k
    induction k with
    | zero => simp [accZ]
    | succ k ih =>
      simp only [accZ]
      rw [ih, dot_at _ ys n k (by rw [cbL_len]; exact hn), dot_at _ ys n k hn, dot_at _ ys n k hl, cbL_at (by omega)]
      grind
  exact key n

theorem gcdTo_scale (xs : List Int) (m : Int) : ∀ k, gcdTo (scL xs m) k = gcdTo xs k * m.natAbs
  | 0 => by simp [gcdTo]
  | k + 1 => by
    show Int.gcd (gcdTo (scL xs m) k : Int) ((scL xs m).getD k 0) = Int.gcd (gcdTo xs k : Int) (xs.getD k 0) * m.natAbs
    rw [gcdTo_scale xs m k, scL_at]
    unfold Int.gcd
    rw [Int.natAbs_mul, Int.natAbs_natCast, Int.natAbs_natCast, Nat.gcd_mul_right]
theorem cont_scale (xs : List Int) (m : Int) : (gcdTo (scL xs m) (scL xs m).length : Int) = (gcdTo xs xs.length : Int) * (m.natAbs : Int) := by
  rw [scL_len, gcdTo_scale, Int.natCast_mul]
theorem gcdTo_zero_at {xs : List Int} (h : gcdTo xs xs.length = 0) (i : Nat) : xs.getD i 0 = 0 := by
  rcases Nat.lt_or_ge i xs.length with hi | hi
  · have := gcdTo_dvd xs xs.length i hi
    rw [h] at this
    exact Int.zero_dvd.1 this
  · exact getD_over hi
theorem prim_back (xs : List Int) : scL (primL xs) (contS xs) = xs := by
  refine list_ext (by rw [scL_len, primL_len]) fun i hi => ?_
  rw [scL_len, primL_len] at hi
  rw [scL_at]
  by_cases hz : gcdTo xs xs.length = 0
  · have : contS xs = 0 := by have := contS_abs xs; omega
    rw [this, Int.mul_zero, gcdTo_zero_at hz]
  · unfold primL
    rw [if_neg hz, getD_map, if_pos hi]
    exact Int.ediv_mul_cancel (contS_dvd xs i hi)
theorem cont_prim (xs : List Int) : gcdTo (primL xs) (primL xs).length = if gcdTo xs xs.length = 0 then 0 else 1 := by
  have h := gcdTo_scale (primL xs) (contS xs) xs.length
  rw [prim_back, contS_abs] at h
  rw [primL_len]
  split
  next hz =>
    have hp : ∀ i, (primL xs).getD i 0 = 0 := fun i => by
      unfold primL; rw [if_pos hz]
      rcases Nat.lt_or_ge i xs.length with hi | hi
      · simp [hi]
      · exact getD_over (by simpa using hi)
    have := gcdTo_great (primL xs) 0 xs.length (fun i _ => by rw [hp i]; exact Int.dvd_refl 0)
    have := Int.zero_dvd.1 this
    omega
  next hz =>
    have hp : 0 < gcdTo xs xs.length := Nat.pos_of_ne_zero hz
    exact (Nat.eq_of_mul_eq_mul_right hp (by rw [Nat.one_mul]; exact h)).symm

/-! sizes -/
theorem SzL.mono {j k : Nat} {xs : List Int} (h : SzL j xs) (hl : j ≤ k) : SzL k xs := fun i => (h i).mono hl
theorem SzL.scale {j k : Nat} {xs : List Int} {z : Int} (h : SzL j xs) (hz : SzI k z) : SzL (j + k) (scL xs z) := fun i => by rw [scL_at]; exact (h i).mul hz
theorem SzL.add {k : Nat} {xs ys : List Int} (hl : ys.length = xs.length) (h : SzL k xs) (h' : SzL k ys) : SzL (k + 1) (adL xs ys) := fun i => by rw [adL_at hl]; exact ((h i).add (h' i)).mono (by omega)
theorem SzL.comb {j k : Nat} {xs ys : List Int} {c d : Int} (hl : ys.length = xs.length) (h : SzL k xs) (h' : SzL k ys) (hc : SzI j c) (hd : SzI j d) : SzL (j + k + 1) (cbL c xs d ys) := fun i => by rw [cbL_at hl]; exact ((hc.mul (h i)).add (hd.mul (h' i))).mono (by omega)
theorem SzL.dots {j k : Nat} {xs ys : List Int} (h : SzL j xs) (h' : SzL k ys) : SzL (j + k) ((List.range xs.length).map fun i => xs.getD i 0 * ys.getD i 0) := fun i => by rw [dot_at xs ys _ i rfl]; exact (h i).mul (h' i)
theorem accZ_over (L : List Int) : ∀ k, accZ (· + ·) 0 L (L.length + k) = accZ (· + ·) 0 L L.length
  | 0 => rfl
  | k + 1 => by
    show accZ (· + ·) 0 L (L.length + k) + L.getD (L.length + k) 0 = _
    rw [accZ_over L k, getD_over (by omega), Int.add_zero]
theorem accZ_sz0 {T : Nat} {L : List Int} (h : SzL T L) : ∀ i, SzI (T + i) (accZ (· + ·) 0 L i)
  | 0 => SzI.zero.mono (by omega)
  | i + 1 => ((accZ_sz0 h i).add (h i)).mono (by omega)
theorem accZ_sz {T : Nat} {L : List Int} (h : SzL T L) (i : Nat) : SzI (T + L.length) (accZ (· + ·) 0 L i) := by
  rcases Nat.le_total i L.length with hi | hi
  · exact (accZ_sz0 h i).mono (by omega)
  · have e : i = L.length + (i - L.length) := by omega
    rw [e, accZ_over]; exact accZ_sz0 h _
theorem dot_sz {j k n : Nat} {xs ys : List Int} (h : SzL j xs) (h' : SzL k ys) (hn : xs.length ≤ n) (i : Nat) : SzI (j + k + n) (accZ (· + ·) 0 ((List.range xs.length).map fun i => xs.getD i 0 * ys.getD i 0) i) :=
  (accZ_sz (h.dots h') i).mono (by simp; omega)
theorem dotL_sz {j k n : Nat} {xs ys : List Int} (h : SzL j xs) (h' : SzL k ys) (hn : xs.length ≤ n) : SzI (j + k + n) (dotL xs ys) := dot_sz h h' hn _
theorem prim_sz {k : Nat} {xs : List Int} (h : SzL k xs) : SzL k (primL xs) := by
  intro i
  unfold primL
  split
  · rcases Nat.lt_or_ge i xs.length with hi | hi
    · simp [hi]; exact SzI.zero.mono (by omega)
    · rw [getD_over (by simpa using hi)]; exact SzI.zero.mono (by omega)
  · rw [getD_map]; split
    · refine Nat.lt_of_le_of_lt ?_ (h i)
      next hlt =>
        rw [Int.natAbs_ediv_of_dvd (contS_dvd xs i hlt)]
        exact Nat.div_le_self _ _
    · exact SzI.zero.mono (by omega)
theorem contS_sz {k : Nat} {xs : List Int} (h : SzL k xs) : SzI k (contS xs) := by
  have := gcdTo_sz h xs.length; unfold SzI at this ⊢; rw [contS_abs]; simpa using this
theorem numsZ_sz {w : World} {a : Option Addr} {n cap : Nat} {ns : List (Bool × List Nat)} (hA : NumL w (.slice a n cap) ns) (h : Few ns) : SzL 300 (numsZ ns) := by
  intro i
  have e : (numsZ ns).getD i 0 = sg (ns.getD i (false, [])).1 (val (ns.getD i (false, [])).2) := by
    unfold numsZ
    rw [List.getD_eq_getElem?_getD, List.getElem?_map, List.getD_eq_getElem?_getD]
    cases ns[i]? with
    | none => rfl
    | some p => rfl
  rw [e]
  rcases Nat.lt_or_ge i ns.length with hi | hi
  · obtain ⟨_, _, _, s, m, l, c, xs, _, _, k3, k4⟩ := hA.at hi
    have hl := h.2 i hi
    rw [k4] at hl ⊢
    exact SzI.of k3.ok hl
  · rw [List.getD_eq_getElem?_getD, List.getElem?_eq_none hi]; exact SzI.zero.mono (by omega)
end Go.Proofs.Ytejkjdjobeabfaa

namespace Go.Proofs.Ytejkjdjobeabfaa
open Go.RowKit

theorem RInt.cellsW {w : World} {v : Value} {z : Int} (h : RInt w v z) : ∃ s m n c, v = .agg #[.bool s, .slice m n c] ∧ RInt w (.agg #[.bool s, .slice m n c]) z := by
  obtain ⟨b, j, a, c, rfl, hx⟩ := h
  exact ⟨b, a, _, c, rfl, b, j, a, c, rfl, hx⟩
theorem Try.infoRW : (Try.prog.info? 39).map (fun i => (i.zero, i.size, i.bytes)) = some (some (.agg #[.bool false, .slice none 0 0]), 2, 32) := by kernel_rfl
theorem rint_nought {w : World} : RInt w (.agg #[.bool false, .slice none 0 0]) 0 := ⟨false, 0, none, 0, rfl, by show Nums w (.slice none 0 0) []; exact Nums.nil_mk _ _ _ (Nat.zero_le _), rfl, fun _ => rfl⟩
theorem cbL_take (c d : Int) (xs ys : List Int) (k : Nat) (hk : k < xs.length) (hl : ys.length = xs.length) : (cbL c xs d ys).take (k + 1) = (cbL c xs d ys).take k ++ [c * xs.getD k 0 + d * ys.getD k 0] := by
  have h' : k < (cbL c xs d ys).length := by rw [cbL_len]; exact hk
  rw [List.take_succ_eq_append_getElem h']
  congr 2
  have := cbL_at (c := c) (d := d) hl k
  simpa [h'] using this

set_option maxRecDepth 100000 in
set_option maxHeartbeats 8000000 in
theorem rcomb_any (vc va vd vb : Value) (xs ys : List Int) (c d : Int) (K : Nat) (w : World) (ic : RInt w vc c) (h1 : RInts w va xs) (id' : RInt w vd d) (h2 : RInts w vb ys) (hl : ys.length = xs.length) (hm : xs.length ≤ 1000000) (s1 : SzL K xs) (s2 : SzL K ys) (s3 : SzI K c) (s4 : SzI K d) (hK : K ≤ 1000000) :
    Calls Try.prog 23 #[vc, va, vd, vb] w fun e w' => ∃ v, e = .returned v ∧ RInts w' v (cbL c xs d ys) ∧ Below w.heap.size w w' := by
  obtain ⟨i1, hi1, hy0, hy1, hy2⟩ := info_parts Try.infoRW
  have TR := hide (And.intro hi1 (And.intro hy0 (And.intro hy1 hy2)))
  clear hi1 hy0 hy1 hy2
  obtain ⟨sc, mc, lc, cc, rfl, ic⟩ := ic.cellsW
  obtain ⟨sd, md, ld, cd, rfl, id'⟩ := id'.cellsW
  have NB := nboxes2 39 w (.bool sc) (.slice mc lc cc) (.bool sd) (.slice md ld cd)
  have CX := hide NB.1
  have DX := hide NB.2.1
  have HB := hide NB.2.2
  have IC := hide (ic.below NB.2.2)
  have ID := hide (id'.below NB.2.2)
  have H1 := hide (h1.below NB.2.2)
  have H2 := hide (h2.below NB.2.2)
  have S1 := hide s1
  have S2 := hide s2
  have S3 := hide s3
  have S4 := hide s4
  obtain ⟨aa, ca, rfl, hca, hma, _⟩ := h1
  obtain ⟨ab, cb, rfl, hcb, hmb, _⟩ := h2
  unfold maxLen at hma hmb
  clear NB ic id' s1 s2 s3 s4
  have HLY := hide hl
  obtain ⟨ny, hny⟩ : ∃ ny, ys.length = ny := ⟨_, rfl⟩
  rw [hny] at hl
  have HNY := hide hny
  rw [hny] at H2 ⊢
  clear hny
  subst hl
  go_enter Try.func23, Try.ntmps23
  go_wp2
  obtain ⟨w0, hw0⟩ : ∃ w0, (w.alloc (.cells #[.bool sc, .slice mc lc cc] 39)).alloc (.cells #[.bool sd, .slice md ld cd] 39) = w0 := ⟨_, rfl⟩
  rw [hw0] at CX DX HB IC ID H1 H2 ⊢
  clear hw0
  go_loopw [9, 10] (fun va iv wr => ∃ k : Nat, k ≤ xs.length ∧ iv = .int .i64 k ∧ Below w0.heap.size w0 wr ∧ ListR wr w0.heap.size va ((cbL c xs d ys).take k)) (fun _ iv _ => xs.length - (intOf iv).toNat)
  case atStart => exact ⟨0, Nat.zero_le _, rfl, Below.refl _ _, ListR.nil _ _⟩
  case round =>
    obtain ⟨k, hk, rfl, hb, hL⟩ := hrel
    have HR := hide hb
    have LR := hide hL
    clear hb hL
    by_cases hlt : k < xs.length
    · have TK := hide (cbL_take c d xs ys k hlt HLY.out)
      generalize hT : (cbL c xs d ys).take k = T at *
      have TL : Hid (T.length ≤ 1000000) := hide (by rw [← hT, List.length_take]; omega)
      clear hT
      obtain ⟨b1, o1, rfl, t1, q1, r1, u1, k1, k2, k3⟩ := H1.out.at hlt
      obtain ⟨b2, o2, rfl, t2, q2, r2, u2, j1, j2, j3⟩ := H2.out.at (i := k) (by have := HLY.out; omega)
      have K1 := hide k1
      have K2 := hide k2
      have J1 := hide j1
      have J2 := hide j2
      have I1 := hide k3
      have I2 := hide j3
      have SA := hide (S1.out k)
      have SB := hide (S2.out k)
      clear k1 k2 k3 j1 j2 j3
      generalize xs.getD k 0 = x at *
      generalize ys.getD k 0 = y at *
      go_upto_region 5 with fail
      replace LR := hide LR.out.drew
      refine wp_calm (fun w' => Below w0.heap.size w0 w') (fun j => j != 15 && j != 16) 17 #[false, false, false, false, false, false, false, false, false, false, false, false, false, false, false, false, false] (by kernel_rfl) rfl rfl ?_
      have HF := hide (HR.out.drew)
      generalize wr.drew = wrd at *
      refine Calm.takeL 17 (i := 0) (v := ?_) (a' := ?_) (l' := #[true, false, false, false, false, false, false, false, false, false, false, false, false, false, false, false, false]) (d := some 17) (by kernel_rfl) rfl (by kernel_rfl) (by kernel_rfl) (by kernel_rfl) (by kernel_rfl) (fun _ _ _ h => h) HF.out rfl ?_ rfl rfl ?_ ?_
      rotate_left
      · intro w' hF; clear hF; go_simp; try rfl
      rotate_left
      · simp only [Act.put]; exact rfl
      refine Calm.takeL 17 (i := 1) (v := ?_) (a' := ?_) (l' := #[true, true, false, false, false, false, false, false, false, false, false, false, false, false, false, false, false]) (d := some 18) (by kernel_rfl) rfl (by kernel_rfl) (by kernel_rfl) (by kernel_rfl) (by kernel_rfl) (fun _ _ _ h => h) HF.out rfl ?_ rfl rfl ?_ ?_
      rotate_left
      · intro w' hF; have f0 := (CX.out.step hF).cell0; have f1 := (CX.out.step hF).cell1; have f2 := (DX.out.step hF).cell0; have f3 := (DX.out.step hF).cell1; have f4 := (K1.out.step hF).out; have f5 := (K2.out.step hF).out; have f6 := (J1.out.step hF).out; have f7 := (J2.out.step hF).out; clear hF; go_simp; try rfl
      rotate_left
      · simp only [Act.put]; exact rfl
      refine Calm.takeL 17 (i := 2) (v := ?_) (a' := ?_) (l' := #[true, true, true, false, false, false, false, false, false, false, false, false, false, false, false, false, false]) (d := some 19) (by kernel_rfl) rfl (by kernel_rfl) (by kernel_rfl) (by kernel_rfl) (by kernel_rfl) (fun _ _ _ h => h) HF.out rfl ?_ rfl rfl ?_ ?_
      rotate_left
      · intro w' hF; clear hF; go_simp; try rfl
      rotate_left
      · simp only [Act.put]; exact rfl
      refine Calm.takeL 17 (i := 3) (v := ?_) (a' := ?_) (l' := #[true, true, true, true, false, false, false, false, false, false, false, false, false, false, false, false, false]) (d := some 20) (by kernel_rfl) rfl (by kernel_rfl) (by kernel_rfl) (by kernel_rfl) (by kernel_rfl) (fun _ _ _ h => h) HF.out rfl ?_ rfl rfl ?_ ?_
      rotate_left
      · intro w' hF; clear hF; go_simp; try rfl
      rotate_left
      · simp only [Act.put]; exact rfl
      refine Calm.takeL 17 (i := 4) (v := ?_) (a' := ?_) (l' := #[true, true, true, true, true, false, false, false, false, false, false, false, false, false, false, false, false]) (d := some 21) (by kernel_rfl) rfl (by kernel_rfl) (by kernel_rfl) (by kernel_rfl) (by kernel_rfl) (fun _ _ _ h => h) HF.out rfl ?_ rfl rfl ?_ ?_
      rotate_left
      · intro w' hF; clear hF; go_simp; try rfl
      rotate_left
      · simp only [Act.put]; exact rfl
      refine Calm.takeL 17 (i := 5) (v := ?_) (a' := ?_) (l' := #[true, true, true, true, true, true, false, false, false, false, false, false, false, false, false, false, false]) (d := some 22) (by kernel_rfl) rfl (by kernel_rfl) (by kernel_rfl) (by kernel_rfl) (by kernel_rfl) (fun _ _ _ h => h) HF.out rfl ?_ rfl rfl ?_ ?_
      rotate_left
      · intro w' hF; have f0 := (CX.out.step hF).cell0; have f1 := (CX.out.step hF).cell1; have f2 := (DX.out.step hF).cell0; have f3 := (DX.out.step hF).cell1; have f4 := (K1.out.step hF).out; have f5 := (K2.out.step hF).out; have f6 := (J1.out.step hF).out; have f7 := (J2.out.step hF).out; clear hF; go_simp; try rfl
      rotate_left
      · simp only [Act.put]; exact rfl
      refine Calm.takeL 17 (i := 7) (v := ?_) (a' := ?_) (l' := #[true, true, true, true, true, true, false, true, false, false, false, false, false, false, false, false, false]) (d := some 24) (by kernel_rfl) rfl (by kernel_rfl) (by kernel_rfl) (by kernel_rfl) (by kernel_rfl) (fun _ _ _ h => h) HF.out rfl ?_ rfl rfl ?_ ?_
      rotate_left
      · intro w' hF; have f0 := (CX.out.step hF).cell0; have f1 := (CX.out.step hF).cell1; have f2 := (DX.out.step hF).cell0; have f3 := (DX.out.step hF).cell1; have f4 := (K1.out.step hF).out; have f5 := (K2.out.step hF).out; have f6 := (J1.out.step hF).out; have f7 := (J2.out.step hF).out; clear hF; go_simp; try rfl
      rotate_left
      · simp only [Act.put]; exact rfl
      refine Calm.takeL 17 (i := 8) (v := ?_) (a' := ?_) (l' := #[true, true, true, true, true, true, false, true, true, false, false, false, false, false, false, false, false]) (d := some 25) (by kernel_rfl) rfl (by kernel_rfl) (by kernel_rfl) (by kernel_rfl) (by kernel_rfl) (fun _ _ _ h => h) HF.out rfl ?_ rfl rfl ?_ ?_
      rotate_left
      · intro w' hF; clear hF; go_simp; try rfl
      rotate_left
      · simp only [Act.put]; exact rfl
      refine Calm.takeL 17 (i := 9) (v := ?_) (a' := ?_) (l' := #[true, true, true, true, true, true, false, true, true, true, false, false, false, false, false, false, false]) (d := some 26) (by kernel_rfl) rfl (by kernel_rfl) (by kernel_rfl) (by kernel_rfl) (by kernel_rfl) (fun _ _ _ h => h) HF.out rfl ?_ rfl rfl ?_ ?_
      rotate_left
      · intro w' hF; clear hF; go_simp; try rfl
      rotate_left
      · simp only [Act.put]; exact rfl
      refine Calm.takeL 17 (i := 10) (v := ?_) (a' := ?_) (l' := #[true, true, true, true, true, true, false, true, true, true, true, false, false, false, false, false, false]) (d := some 27) (by kernel_rfl) rfl (by kernel_rfl) (by kernel_rfl) (by kernel_rfl) (by kernel_rfl) (fun _ _ _ h => h) HF.out rfl ?_ rfl rfl ?_ ?_
      rotate_left
      · intro w' hF; clear hF; go_simp; try rfl
      rotate_left
      · simp only [Act.put]; exact rfl
      refine Calm.takeL 17 (i := 11) (v := ?_) (a' := ?_) (l' := #[true, true, true, true, true, true, false, true, true, true, true, true, false, false, false, false, false]) (d := some 28) (by kernel_rfl) rfl (by kernel_rfl) (by kernel_rfl) (by kernel_rfl) (by kernel_rfl) (fun _ _ _ h => h) HF.out rfl ?_ rfl rfl ?_ ?_
      rotate_left
      · intro w' hF; have f0 := (CX.out.step hF).cell0; have f1 := (CX.out.step hF).cell1; have f2 := (DX.out.step hF).cell0; have f3 := (DX.out.step hF).cell1; have f4 := (K1.out.step hF).out; have f5 := (K2.out.step hF).out; have f6 := (J1.out.step hF).out; have f7 := (J2.out.step hF).out; clear hF; go_simp; try rfl
      rotate_left
      · simp only [Act.put]; exact rfl
      refine Calm.one (i := 6) (l' := #[true, true, true, true, true, true, true, true, true, true, true, true, false, false, false, false, false]) (by kernel_rfl) rfl rfl rfl fun K hK => ?_
      go_simp
      refine (rmul2_any _ _ c x _ (IC.out.below HF.out) (I1.out.below HF.out) (SzI.dlen S3.out (by omega)) (SzI.dlen SA.out (by omega))).mono ?_
      rintro e y1 ⟨v, rfl, i, hb⟩
      replace LR := hide (LR.out.below (hb))
      have HF' := hide (HF.out.trans ((hb).mono HF.out.size))
      have T1 := hide (i)
      refine hK _ _ (fun _ => HF'.out) ?_
      clear hK K HF hb i
      have HF := hide HF'.out
      clear HF'
      refine Calm.one (i := 12) (l' := #[true, true, true, true, true, true, true, true, true, true, true, true, true, false, false, false, false]) (by kernel_rfl) rfl rfl rfl fun K hK => ?_
      go_simp
      refine (rmul2_any _ _ d y _ (ID.out.below HF.out) (I2.out.below HF.out) (SzI.dlen S4.out (by omega)) (SzI.dlen SB.out (by omega))).mono ?_
      rintro e y2 ⟨v, rfl, i, hb⟩
      replace LR := hide (LR.out.below (hb))
      replace T1 := hide (T1.out.below (hb))
      have HF' := hide (HF.out.trans ((hb).mono HF.out.size))
      have T2 := hide (i)
      refine hK _ _ (fun _ => HF'.out) ?_
      clear hK K HF hb i
      have HF := hide HF'.out
      clear HF'
      refine Calm.one (i := 13) (l' := #[true, true, true, true, true, true, true, true, true, true, true, true, true, true, false, false, false]) (by kernel_rfl) rfl rfl rfl fun K hK => ?_
      go_simp
      refine (radd2_any _ _ (c * x) (d * y) _ T1.out T2.out (SzI.dlen (S3.out.mul SA.out) (by omega)) (SzI.dlen (S4.out.mul SB.out) (by omega))).mono ?_
      rintro e y3 ⟨v, rfl, i, hb⟩
      obtain ⟨s5, m5, l5, c5, rfl, i⟩ := i.cellsW
      replace LR := hide (LR.out.below (hb))
      clear T1
      clear T2
      have HF' := hide (HF.out.trans ((hb).mono HF.out.size))
      have TV := hide (i)
      refine hK _ _ (fun _ => HF'.out) ?_
      clear hK K HF hb i
      have HF := hide HF'.out
      clear HF'
      refine Calm.one (i := 14) (l' := #[true, true, true, true, true, true, true, true, true, true, true, true, true, true, true, false, false]) (by kernel_rfl) rfl rfl rfl fun K hK => ?_
      go_simp
      have al := below_alloc y3 (.cells #[.bool s5, .slice m5 l5 c5] 39)
      have HF' := hide (HF.out.trans ((al).mono HF.out.size))
      have BXe := hide (Box2.new y3 39 (.bool s5) (.slice m5 l5 c5))
      replace LR := hide (LR.out.below (al))
      replace TV := hide (TV.out.below (al))
      have GEe := hide (HF.out.size)
      refine hK _ _ (fun _ => HF'.out) ?_
      clear hK K HF al
      have HF := hide HF'.out
      clear HF'
      generalize y3.alloc (.cells #[.bool s5, .slice m5 l5 c5] 39) = wze at *
      generalize y3.heap.size = ge at *
      refine Calm.one (i := 15) (l' := #[true, true, true, true, true, true, true, true, true, true, true, true, true, true, true, true, false]) (by kernel_rfl) rfl rfl rfl fun K hK => ?_
      obtain ⟨zx, ho, hx⟩ := LR.out
      have he0 := BXe.out.cell0
      have he1 := BXe.out.cell1
      refine wp_app2 _ (.tmp 17) (.tmp 31) 32 rfl w0.heap.size 39 _ Try.underlying32 TR.out.1 TR.out.2.1 TR.out.2.2.1 TR.out.2.2.2 u9 T.length zx rfl ho ge 1 s5 m5 l5 c5 rfl he0 he1 (by have := TL.out; omega) (by have h1 := HF.out.size; omega) ?_
      intro vB xB ho' hg hob
      clear he0 he1
      refine hK _ _ (fun h => absurd h (by decide)) ?_
      clear hK K
      refine Calm.one (i := 16) (l' := #[true, true, true, true, true, true, true, true, true, true, true, true, true, true, true, true, true]) (by kernel_rfl) rfl rfl rfl fun K hK => ?_
      go_simp
      refine hK _ _ (fun h => absurd h (by decide)) ?_
      clear hK K
      refine Calm.done (by kernel_rfl) ?_
      have LR2 := hide (ListR.app ho hx TV.out ho' hg)
      have HR2 := hide (HF.out.grown hg HF.out.size (fun g e => (LR.out.lt e).1))
      clear HF ho hx ho' hg hob TV BXe
      go_wp2
      go_roundw
      case rel => exact ⟨k + 1, by omega, by go_num, HR2.out, by rw [TK.out]; exact LR2.out⟩
      case measure => simp [intOf]; omega
    · have e : k = xs.length := by omega
      subst e
      have ET : Hid ((cbL c xs d ys).take xs.length = cbL c xs d ys) := hide (List.take_of_length_le (by rw [cbL_len]; omega))
      rw [ET.out] at LR
      go_wp2
      go_ret
      exact ⟨_, rfl, LR.out.rints, HB.out.trans (HR.out.mono HB.out.size)⟩

set_option maxRecDepth 100000 in
set_option maxHeartbeats 2000000 in
theorem r4scale_any (va vc : Value) (xs : List Int) (c : Int) (K : Nat) (w : World) (h1 : RInts w va xs) (ic : RInt w vc c) (hm : xs.length ≤ 1000000) (s1 : SzL K xs) (s3 : SzI K c) (hK : K ≤ 1000000) :
    Calls Try.prog 17 #[va, vc] w fun e w' => ∃ v, e = .returned v ∧ RInts w' v (scL xs c) ∧ Below w.heap.size w w' := by
  obtain ⟨sc, mc, lc, cc, rfl, ic⟩ := ic.cellsW
  have HB := hide (below_alloc w (.cells #[.bool sc, .slice mc lc cc] 39))
  have H1 := hide (h1.below HB.out)
  have IC := hide (ic.below HB.out)
  obtain ⟨aa, ca, rfl, hca, hma, _⟩ := h1
  clear ic
  go_enter Try.func17, Try.ntmps17
  go_wp2_with fail
  generalize w.alloc (.cells #[.bool sc, .slice mc lc cc] 39) = w0 at *
  refine (rcomb_any _ _ _ _ xs xs c 0 K _ IC.out H1.out rint_nought H1.out rfl hm s1 s1 s3 (SzI.zero.mono (by omega)) hK).mono ?_
  rintro e w1 ⟨v, rfl, i, hb⟩
  rw [show cbL c xs 0 xs = scL xs c from list_ext (by rw [cbL_len, scL_len]) fun i _ => by rw [cbL_at rfl, scL_at, Int.zero_mul, Int.add_zero, Int.mul_comm]] at i
  have HV := hide i
  replace HB := hide (HB.out.trans (hb.mono HB.out.size))
  clear i hb
  go_wp2
  go_ret
  exact ⟨_, rfl, HV.out, HB.out⟩
end Go.Proofs.Ytejkjdjobeabfaa
