/- The document's answers for layer 2 (swageref02): Sign, Neg, Abs, size, Cmp. -/
import Derived.Test.YtapodkjmhenceaaR2Is
namespace Go.Proofs.Ytapodkjmhenceaa
open Go.RowKit

set_option maxRecDepth 100000 in
theorem rsign_any (v : Value) (z : Int) (w : World) (h : RInt w v z) :
    Calls Try.prog 47 #[v] w fun e w' => e = .returned (.int .i64 (sgnI z)) ∧ Below w.heap.size w w' := by
  obtain ⟨b, n, a, c, rfl, hn, rfl, h0⟩ := h
  by_cases hp : n = 0
  · subst hp
    have : b = false := h0 rfl
    subst this
    have e : sgnI (sg false 0) = 0 := rfl
    rw [e]
    have e2 : (D.lim 0).length = 0 := rfl
    rw [e2]
    clear hn h0
    go_enter Try.func47, Try.ntmps47
    go_wp2
    go_ret
    exact ⟨rfl, below_alloc _ _⟩
  · have hp' : 0 < (D.lim n).length := by rw [D.lim_pos (by omega)]; simp
    clear hn h0
    cases b with
    | true =>
      rw [show sgnI (sg true n) = -1 from if_pos (by rw [sg_true]; omega)]
      go_enter Try.func47, Try.ntmps47
      go_wp2
      go_ret
      exact ⟨rfl, below_alloc _ _⟩
    | false =>
      rw [show sgnI (sg false n) = 1 from by unfold sgnI; rw [if_neg (by rw [sg_false]; omega), if_neg (by rw [sg_false]; omega)]]
      go_enter Try.func47, Try.ntmps47
      go_wp2
      go_ret
      exact ⟨rfl, below_alloc _ _⟩

theorem dval_lt_of_top : ∀ {xs ys : List Nat} {k : Nat}, xs.length = ys.length → D.Ok xs → D.Ok ys → k < xs.length → lm xs k < lm ys k → (∀ j, k + 1 ≤ j → lm xs j = lm ys j) → D.val xs < D.val ys := by
  intro xs
  induction xs with
  | nil => intro ys k _ _ _ h; simp at h
  | cons x xs ih =>
    intro ys k hl ho1 ho2 hk hlt htop
    cases ys with
    | nil => simp at hl
    | cons y ys =>
      have hx := ho1.head
      have hy := ho2.head
      simp only [D.val]
      cases k with
      | zero =>
        have he : xs = ys := lists_eq (by simpa using hl) (fun i _ => by simpa [lm] using htop (i + 1) (by omega))
        subst he
        have : x < y := by simpa [lm] using hlt
        omega
      | succ k =>
        have h1 : D.val xs < D.val ys := ih (k := k) (by simpa using hl) ho1.tail ho2.tail (by simpa using hk) (by simpa [lm] using hlt) (fun j hj => by simpa [lm] using htop (j + 1) (by omega))
        have h2 : D.BB * (D.val xs + 1) ≤ D.BB * D.val ys := Nat.mul_le_mul_left _ h1
        rw [Nat.mul_add, Nat.mul_one] at h2
        omega

set_option maxRecDepth 100000 in
set_option maxHeartbeats 1000000 in
theorem rsize_any (v1 v2 : Value) (m n : Nat) (w : World) (h1 : Nums w v1 (D.lim m)) (h2 : Nums w v2 (D.lim n)) :
    Calls Try.prog 107 #[v1, v2] w fun e w' => e = .returned (.int .i64 (cmpI m n)) ∧ Below w.heap.size w w' := by
  have HM := hide (D.val_lim m)
  have HN := hide (D.val_lim n)
  have HO1 := hide (D.ok_lim m)
  have HO2 := hide (D.ok_lim n)
  obtain ⟨ho1, a1, c1, rfl, hl1, hm1, hc1⟩ := h1
  obtain ⟨ho2, a2, c2, rfl, hl2, hm2, hc2⟩ := h2
  have HC1 := hide hc1
  have HC2 := hide hc2
  have HLL : Hid ((D.lim m).length < (D.lim n).length → m < n) := fun h => D.lim_len_lt h
  have HGG : Hid ((D.lim n).length < (D.lim m).length → n < m) := fun h => D.lim_len_lt h
  clear hc1 hc2 ho1 ho2
  unfold maxLen at hm1 hm2
  generalize D.lim m = L1 at *
  generalize D.lim n = L2 at *
  by_cases hA : L1.length < L2.length
  · rw [show cmpI m n = -1 from cmpI_lt (HLL.out hA)]
    have hne : (((L1.length : Nat) : Int) != ((L2.length : Nat) : Int)) = true := by simp; omega
    go_enter Try.func107, Try.ntmps107
    go_wp2
    go_ret
    exact ⟨rfl, Below.refl _ _⟩
  · by_cases hB : L2.length < L1.length
    · rw [show cmpI m n = 1 from cmpI_gt (HGG.out hB)]
      have hne : (((L1.length : Nat) : Int) != ((L2.length : Nat) : Int)) = true := by simp; omega
      go_enter Try.func107, Try.ntmps107
      go_wp2
      go_ret
      exact ⟨rfl, Below.refl _ _⟩
    · have HE : Hid (L1.length = L2.length) := by show L1.length = L2.length; omega
      have hne : (((L1.length : Nat) : Int) != ((L2.length : Nat) : Int)) = false := by simp; omega
      go_enter Try.func107, Try.ntmps107
      go_wp2
      go_loopw [5] (fun i wr => ∃ k : Nat, k ≤ L1.length ∧ i = .int .i64 ((k : Int) - 1) ∧ (∀ j, k ≤ j → lm L1 j = lm L2 j) ∧ Below w.heap.size w wr) (fun i _ => (intOf i + 1).toNat)
      case atStart => exact ⟨L1.length, Nat.le_refl _, by go_num, fun j hj => by rw [lm_over _ _ hj, lm_over _ _ (by have := HE.out; omega)], Below.refl _ _⟩
      case round =>
        obtain ⟨k, hk, rfl, hag, hbel⟩ := hrel
        have HA : Hid (∀ j, k ≤ j → lm L1 j = lm L2 j) := hag
        clear hag
        cases k with
        | zero =>
          go_wp2
          go_ret
          have hxy : L1 = L2 := lists_eq HE.out (fun i _ => HA.out i (Nat.zero_le _))
          have : m = n := by rw [← HM.out, ← HN.out, hxy]
          exact ⟨by subst this; rw [cmpI_eq]; rfl, hbel⟩
        | succ k =>
          have hk2 : k < L1.length := by omega
          have hk3 : k < L2.length := by omega
          obtain ⟨b1, o1, rfl, hx⟩ := HC1.out (ne_nil hk2)
          obtain ⟨b2, o2, rfl, hy⟩ := HC2.out (ne_nil hk3)
          have hx' : wr.cell? ⟨b1, o1 + k, none⟩ = some (.int .u32 (lm L1 k : Nat)) := by rw [hbel.cell (World.block_lt_of_cell? w _ (hx k hk2))]; exact hx k hk2
          have hy' : wr.cell? ⟨b2, o2 + k, none⟩ = some (.int .u32 (lm L2 k : Nat)) := by rw [hbel.cell (World.block_lt_of_cell? w _ (hy k hk3))]; exact hy k hk3
          clear hx hy HC1 HC2
          by_cases hlt : lm L1 k < lm L2 k
          · have hlt' : ((lm L1 k : Nat) : Int) < ((lm L2 k : Nat) : Int) := by omega
            go_wp2
            go_quiet (fail)
            go_wp2
            go_ret
            have : m < n := by rw [← HM.out, ← HN.out]; exact dval_lt_of_top HE.out HO1.out HO2.out hk2 hlt HA.out
            exact ⟨by rw [cmpI_lt this]; rfl, below_drewN hbel _⟩
          · by_cases hgt : lm L2 k < lm L1 k
            · have hlt' : ¬ ((lm L1 k : Nat) : Int) < ((lm L2 k : Nat) : Int) := by omega
              have hgt' : ((lm L2 k : Nat) : Int) < ((lm L1 k : Nat) : Int) := by omega
              go_wp2
              go_quiet (fail)
              go_wp2
              go_quiet (fail)
              go_wp2
              go_ret
              have h3 : n < m := by rw [← HM.out, ← HN.out]; exact dval_lt_of_top HE.out.symm HO2.out HO1.out hk3 hgt (fun j hj => (HA.out j hj).symm)
              exact ⟨by rw [cmpI_gt h3]; rfl, by first | exact below_drewN hbel _ | exact below_drewN (below_drewN hbel _) _⟩
            · have HEK : Hid (lm L1 k = lm L2 k) := by show lm L1 k = lm L2 k; omega
              have hlt' : ¬ ((lm L1 k : Nat) : Int) < ((lm L2 k : Nat) : Int) := by omega
              have hgt' : ¬ ((lm L2 k : Nat) : Int) < ((lm L1 k : Nat) : Int) := by omega
              go_wp2
              go_quiet (fail)
              go_wp2
              go_quiet (fail)
              go_wp2
              go_roundw
              case rel => exact ⟨k, by omega, by go_num, fun j hj => by rcases Nat.lt_or_eq_of_le hj with h | rfl; exact HA.out j h; exact HEK.out, by first | exact below_drewN hbel _ | exact below_drewN (below_drewN hbel _) _⟩
              case measure => simp [intOf]

theorem sgn_neg {z : Int} (h : sgnI z < 0) : z < 0 := by
  unfold sgnI at h
  split at h
  · assumption
  · split at h <;> omega
theorem sgn_nonneg {z : Int} (h : ¬ sgnI z < 0) : ¬ z < 0 := fun k => h (by unfold sgnI; rw [if_pos k]; decide)
theorem cmp_signs_lt {x y : Int} (h : sgnI x < sgnI y) : cmpZ x y = -1 := by
  refine cmpZ_lt ?_
  unfold sgnI at h
  split at h <;> split at h <;> (try split at h) <;> (try split at h) <;> omega
theorem cmp_signs_gt {x y : Int} (h : sgnI y < sgnI x) : cmpZ x y = 1 := by
  refine cmpZ_gt ?_
  unfold sgnI at h
  split at h <;> split at h <;> (try split at h) <;> (try split at h) <;> omega
theorem sg_pos {b : Bool} {n : Nat} (h : ¬ sg b n < 0) (h0 : n = 0 → b = false) : b = false := by
  cases b with
  | false => rfl
  | true => rcases Nat.eq_zero_or_pos n with e | e
            · exact h0 e
            · exact absurd (by rw [sg_true]; omega) h
theorem sg_minus {b : Bool} {n : Nat} (h : sg b n < 0) : b = true := by
  cases b with
  | true => rfl
  | false => rw [sg_false] at h; omega

set_option maxRecDepth 100000 in
set_option maxHeartbeats 1000000 in
theorem rcmp_any (v1 v2 : Value) (x y : Int) (w : World) (h1 : RInt w v1 x) (h2 : RInt w v2 y) :
    Calls Try.prog 119 #[v1, v2] w fun e w' => e = .returned (.int .i64 (cmpZ x y)) ∧ Below w.heap.size w w' := by
  have I1 := hide h1
  have I2 := hide h2
  obtain ⟨b1, n1, a1, c1, rfl, hn1, e1, h01⟩ := h1
  obtain ⟨b2, n2, a2, c2, rfl, hn2, e2, h02⟩ := h2
  have HE := hide (nboxes2 35 w (.bool b1) (.slice a1 (D.lim n1).length c1) (.bool b2) (.slice a2 (D.lim n2).length c2))
  replace I1 := hide (I1.out.below HE.out.2.2)
  replace I2 := hide (I2.out.below HE.out.2.2)
  have HN1 := hide (hn1.below HE.out.2.2)
  have HN2 := hide (hn2.below HE.out.2.2)
  have HZ := hide (And.intro (And.intro e1 h01) (And.intro e2 h02))
  clear hn1 hn2 h01 h02 e1 e2
  go_enter Try.func119, Try.ntmps119
  go_wp2_with fail
  refine wp_calm (fun w' => Below w.heap.size w w' ∧ Box2 w' w.heap.size 35 (.bool b1) (.slice a1 (D.lim n1).length c1) ∧ Box2 w' (w.heap.size + 1) 35 (.bool b2) (.slice a2 (D.lim n2).length c2)) (fun _ => true) 6 #[false, false, false, false, false, false] (by kernel_rfl) rfl rfl ?_
  have HF := hide (And.intro HE.out.2.2.drew (And.intro HE.out.1.drew HE.out.2.1.drew))
  refine Calm.take (i := 0) (v := ?_) (a' := ?_) (l' := #[true, false, false, false, false, false]) (d := some 7) rfl (by kernel_rfl) (by kernel_rfl) (by kernel_rfl) (by kernel_rfl) (fun _ _ _ h => h) HF.out rfl ?_ rfl rfl ?_ ?_
  rotate_left
  · intro w' hF; have f10 := hF.2.1.cell0; have f11 := hF.2.1.cell1; have f20 := hF.2.2.cell0; have f21 := hF.2.2.cell1; clear hF; go_simp; try rfl
  rotate_left
  · simp only [Act.put]; exact rfl
  refine Calm.take (i := 2) (v := ?_) (a' := ?_) (l' := #[true, false, true, false, false, false]) (d := some 9) rfl (by kernel_rfl) (by kernel_rfl) (by kernel_rfl) (by kernel_rfl) (fun _ _ _ h => h) HF.out rfl ?_ rfl rfl ?_ ?_
  rotate_left
  · intro w' hF; have f10 := hF.2.1.cell0; have f11 := hF.2.1.cell1; have f20 := hF.2.2.cell0; have f21 := hF.2.2.cell1; clear hF; go_simp; try rfl
  rotate_left
  · simp only [Act.put]; exact rfl
  refine Calm.one (i := 1) (l' := #[true, true, true, false, false, false]) (by kernel_rfl) rfl rfl rfl fun K hK => ?_
  go_simp
  refine (rsign_any _ x _ I1.out.drew).mono ?_
  rintro e u0 ⟨rfl, hb⟩
  replace I2 := hide (I2.out.drew.below hb)
  replace HN1 := hide (HN1.out.drew.below hb)
  replace HN2 := hide (HN2.out.drew.below hb)
  try replace BX := hide (BX.out.step hb)
  have HF' := hide (And.intro (HF.out.1.trans ((hb).mono HF.out.1.size)) (And.intro (HF.out.2.1.step (hb)) (HF.out.2.2.step (hb))))
  refine hK _ _ (fun _ => HF'.out) ?_
  clear hK K HF hb
  have HF := hide HF'.out
  clear HF'
  refine Calm.one (i := 3) (l' := #[true, true, true, true, false, false]) (by kernel_rfl) rfl rfl rfl fun K hK => ?_
  go_simp
  refine (rsign_any _ y _ I2.out).mono ?_
  rintro e u1 ⟨rfl, hb⟩
  replace I2 := hide (I2.out.below hb)
  replace HN1 := hide (HN1.out.below hb)
  replace HN2 := hide (HN2.out.below hb)
  try replace BX := hide (BX.out.step hb)
  have HF' := hide (And.intro (HF.out.1.trans ((hb).mono HF.out.1.size)) (And.intro (HF.out.2.1.step (hb)) (HF.out.2.2.step (hb))))
  refine hK _ _ (fun _ => HF'.out) ?_
  clear hK K HF hb
  have HF := hide HF'.out
  clear HF'
  refine Calm.take (i := 4) (v := ?_) (a' := ?_) (l' := #[true, true, true, true, true, false]) (d := some 5) rfl (by kernel_rfl) (by kernel_rfl) (by kernel_rfl) (by kernel_rfl) (fun _ _ _ h => h) HF.out rfl ?_ rfl rfl ?_ ?_
  rotate_left
  · intro w' hF; clear hF; go_simp; try rfl
  rotate_left
  · simp only [Act.put]; exact rfl
  refine Calm.take (i := 5) (v := ?_) (a' := ?_) (l' := #[true, true, true, true, true, true]) (d := some 6) rfl (by kernel_rfl) (by kernel_rfl) (by kernel_rfl) (by kernel_rfl) (fun _ _ _ h => h) HF.out rfl ?_ rfl rfl ?_ ?_
  rotate_left
  · intro w' hF; clear hF; go_simp; try rfl
  rotate_left
  · simp only [Act.put]; exact rfl
  refine Calm.done (by kernel_rfl) ?_
  have hx0 := HF.out.2.1.cell0
  have hx1 := HF.out.2.1.cell1
  have hy0 := HF.out.2.2.cell0
  have hy1 := HF.out.2.2.cell1
  have HLT := hide (@cmp_signs_lt x y)
  have HGT := hide (@cmp_signs_gt x y)
  have HNG := hide (@sgn_neg x)
  have HNN := hide (@sgn_nonneg x)
  have HNY := hide (@sgn_neg y)
  have HNZ := hide (@sgn_nonneg y)
  generalize sgnI x = p at *
  generalize sgnI y = q at *
  by_cases hA : p < q
  · have hne : (p != q) = true := by simp; omega
    go_wp2
    go_ret
    exact ⟨by rw [HLT.out hA]; rfl, HF.out.1⟩
  · by_cases hB : q < p
    · have hne : (p != q) = true := by simp; omega
      go_wp2
      go_ret
      exact ⟨by rw [HGT.out hB]; rfl, HF.out.1⟩
    · have hpq : p = q := by omega
      subst hpq
      by_cases hC : p < 0
      · have hX := HNG.out hC
        have hY := HNY.out hC
        obtain ⟨⟨e1, _⟩, e2, _⟩ := HZ.out
        have hb1 : b1 = true := sg_minus (n := n1) (by rw [← e1]; exact hX)
        have hb2 : b2 = true := sg_minus (n := n2) (by rw [← e2]; exact hY)
        have HCZ : Hid (cmpZ x y = cmpI n2 n1) := hide (by rw [e1, e2, hb1, hb2, cmpZ_tt])
        clear hX hY e1 e2 hb1 hb2
        go_wp2_with fail
        refine (rsize_any _ _ n2 n1 _ HN2.out HN1.out).mono ?_
        rintro e w3 ⟨rfl, hb3⟩
        have HB3 := hide (HF.out.1.trans (hb3.mono HF.out.1.size))
        clear hb3
        go_wp2
        go_ret
        exact ⟨by rw [HCZ.out]; rfl, HB3.out⟩
      · have hX := HNN.out hC
        have hY := HNZ.out hC
        obtain ⟨⟨e1, k1⟩, e2, k2⟩ := HZ.out
        have hb1 : b1 = false := sg_pos (n := n1) (by rw [← e1]; exact hX) k1
        have hb2 : b2 = false := sg_pos (n := n2) (by rw [← e2]; exact hY) k2
        have HCZ : Hid (cmpZ x y = cmpI n1 n2) := hide (by rw [e1, e2, hb1, hb2, cmpZ_nn])
        clear hX hY e1 e2 hb1 hb2 k1 k2
        go_wp2_with fail
        refine (rsize_any _ _ n1 n2 _ HN1.out HN2.out).mono ?_
        rintro e w3 ⟨rfl, hb3⟩
        have HB3 := hide (HF.out.1.trans (hb3.mono HF.out.1.size))
        clear hb3
        go_wp2
        go_ret
        exact ⟨by rw [HCZ.out]; rfl, HB3.out⟩
end Go.Proofs.Ytapodkjmhenceaa
