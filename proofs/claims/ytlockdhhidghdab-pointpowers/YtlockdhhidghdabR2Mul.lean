/- The document's answers for layer 2 (swageref02): Mul. -/
import Derived.Test.YtlockdhhidghdabR2Add
import Derived.Test.YtlockdhhidghdabDivOwn
namespace Go.Proofs.Ytlockdhhidghdab
open Go.RowKit

theorem dset_val (out : List Nat) (p d : Nat) (h : p < out.length) : D.val (out.set p d) + 65536 ^ p * lm out p = D.val out + 65536 ^ p * d := by
  induction out generalizing p with
  | nil => simp at h
  | cons x out ih =>
    cases p with
    | zero => simp [D.val, lm]; omega
    | succ p =>
      have := ih p (by simpa using h)
      have e : lm (x :: out) (p + 1) = lm out p := by simp [lm]
      rw [e, List.set_cons_succ]
      simp only [D.val]
      show x + 65536 * D.val (out.set p d) + 65536 ^ (p + 1) * lm out p = x + 65536 * D.val out + 65536 ^ (p + 1) * d
      rw [Nat.pow_succ, Nat.mul_comm (65536 ^ p) 65536, Nat.mul_assoc, Nat.mul_assoc, Nat.add_assoc, Nat.add_assoc, ← Nat.mul_add, ← Nat.mul_add, this]

/-- a product's state: the rows ahead of i, of the row i the digits ahead of j -/
structure ProdAt (xs ys : List Nat) (i j c : Nat) (out : List Nat) : Prop where
  len : out.length = xs.length + ys.length + 1
  ok : D.Ok out
  c1 : c < 65536
  sum : D.val out + 65536 ^ (i + j) * c = D.val (xs.take i) * D.val ys + 65536 ^ i * lm xs i * D.val (ys.take j)
theorem ProdAt.start (xs ys : List Nat) : ProdAt xs ys 0 0 0 (List.replicate (xs.length + ys.length + 1) 0) := by
  refine ⟨by simp, fun x hx => ?_, by decide, ?_⟩
  · rw [List.eq_of_mem_replicate hx]; decide
  · rw [show D.val (List.replicate (xs.length + ys.length + 1) 0) = 0 from D.val_replicate _]; simp [D.val]
theorem ProdAt.step {xs ys : List Nat} {i j c : Nat} {out : List Nat} (h : ProdAt xs ys i j c out) (hx : D.Ok xs) (hy : D.Ok ys) (hp : i + j < out.length) :
    ProdAt xs ys i (j + 1) ((c + lm out (i + j) + lm xs i * lm ys j) / 65536) (out.set (i + j) ((c + lm out (i + j) + lm xs i * lm ys j) % 65536)) := by
  have h1 := dlm_lt hx i
  have h2 := dlm_lt hy j
  have h3 := dlm_lt h.ok (i + j)
  have h4 := h.c1
  have h5 : lm xs i * lm ys j ≤ 65535 * 65535 := Nat.mul_le_mul (by omega) (by omega)
  refine ⟨by rw [List.length_set]; exact h.len, h.ok.set _ _ (Nat.mod_lt _ (by decide)), by omega, ?_⟩
  have e := dset_val out (i + j) ((c + lm out (i + j) + lm xs i * lm ys j) % 65536) hp
  have em := Nat.mod_add_div (c + lm out (i + j) + lm xs i * lm ys j) 65536
  rw [dtake_succ, show i + (j + 1) = i + j + 1 from by omega, Nat.pow_succ]
  have hs := h.sum
  have e1 : 65536 ^ (i + j) * ((c + lm out (i + j) + lm xs i * lm ys j) % 65536) + 65536 ^ (i + j) * 65536 * ((c + lm out (i + j) + lm xs i * lm ys j) / 65536) = 65536 ^ (i + j) * c + 65536 ^ (i + j) * lm out (i + j) + 65536 ^ (i + j) * (lm xs i * lm ys j) := by
    rw [Nat.mul_assoc, ← Nat.mul_add, em, Nat.mul_add, Nat.mul_add]
  have e2 : 65536 ^ i * lm xs i * (D.val (ys.take j) + 65536 ^ j * lm ys j) = 65536 ^ i * lm xs i * D.val (ys.take j) + 65536 ^ (i + j) * (lm xs i * lm ys j) := by
    rw [Nat.mul_add, Nat.pow_add]
    congr 1
    rw [Nat.mul_assoc, Nat.mul_assoc]
    congr 1
    rw [← Nat.mul_assoc, ← Nat.mul_assoc, Nat.mul_comm (lm xs i)]
  rw [e2]
  omega
theorem ProdAt.last {xs ys : List Nat} {i j : Nat} {out : List Nat} (h : ProdAt xs ys i j 0 out) (hj : ys.length ≤ j) : ProdAt xs ys (i + 1) 0 0 out := by
  refine ⟨h.len, h.ok, by decide, ?_⟩
  have := h.sum
  rw [List.take_of_length_le hj, Nat.mul_zero, Nat.add_zero] at this
  rw [this, dtake_succ, List.take_zero]
  simp only [D.val, Nat.mul_zero, Nat.add_zero]
  rw [Nat.add_mul]
theorem ProdAt.whole {xs ys : List Nat} {i : Nat} {out : List Nat} (h : ProdAt xs ys i 0 0 out) (hi : xs.length ≤ i) : D.val out = D.val xs * D.val ys := by
  have := h.sum
  rw [List.take_of_length_le hi, List.take_zero] at this
  simpa [D.val] using this
theorem dtake_le (ys : List Nat) (j : Nat) : D.val (ys.take j) ≤ D.val ys := by
  have := D.val_append (ys.take j) (ys.drop j)
  rw [List.take_append_drop] at this
  omega
theorem ProdAt.room {xs ys : List Nat} {i j c : Nat} {out : List Nat} (h : ProdAt xs ys i j c out) (hx : D.Ok xs) (hy : D.Ok ys) (hc : 0 < c) : j ≤ ys.length := by
  have h1 : D.val (xs.take (i + 1)) < 65536 ^ (i + 1) := Nat.lt_of_lt_of_le (D.val_lt (hx.take (i + 1))) (Nat.pow_le_pow_right (by decide) (by rw [List.length_take]; omega))
  have h2 : D.val ys < 65536 ^ ys.length := D.val_lt hy
  have h3 : D.val (xs.take (i + 1)) * D.val ys < 65536 ^ (i + 1) * 65536 ^ ys.length := Nat.mul_lt_mul_of_lt_of_le h1 (Nat.le_of_lt h2) (Nat.pow_pos (by decide))
  rw [dtake_succ, Nat.add_mul, ← Nat.pow_add] at h3
  have h4 : 65536 ^ i * lm xs i * D.val (ys.take j) ≤ 65536 ^ i * lm xs i * D.val ys := Nat.mul_le_mul_left _ (dtake_le ys j)
  have h5 : 65536 ^ (i + j) ≤ 65536 ^ (i + j) * c := Nat.le_mul_of_pos_right _ hc
  have hs := h.sum
  have h6 : 65536 ^ (i + j) < 65536 ^ (i + 1 + ys.length) := by omega
  have := (Nat.pow_lt_pow_iff_right (by decide)).1 h6
  omega

theorem mul2_next {W0 wq : World} {T n i j c : Nat} {X Y out : List Nat} {s : Int} (hat : ProdAt X Y i j c out) (hx : D.Ok X) (hy : D.Ok Y) (hp : i + j < out.length) (hrow : RowC wq T T n n out) (hbel : Below T W0 wq) (hs : s = ((c + lm out (i + j) + lm X i * lm Y j : Nat) : Int)) :
    ProdAt X Y i (j + 1) ((c + lm out (i + j) + lm X i * lm Y j) / 65536) (out.set (i + j) ((c + lm out (i + j) + lm X i * lm Y j) % 65536)) ∧ Value.int .u64 (s / 65536) = .int .u64 ((c + lm out (i + j) + lm X i * lm Y j) / 65536 : Nat) ∧
      RowC (wq.setCell ⟨T, i + j, none⟩ (.int .u32 (s % 65536))) T T n n (out.set (i + j) ((c + lm out (i + j) + lm X i * lm Y j) % 65536)) ∧ Below T W0 (wq.setCell ⟨T, i + j, none⟩ (.int .u32 (s % 65536))) := by
  have e : s % 65536 = (((c + lm out (i + j) + lm X i * lm Y j) % 65536 : Nat) : Int) := by rw [hs, Int.natCast_emod]; rfl
  have e' : s / 65536 = (((c + lm out (i + j) + lm X i * lm Y j) / 65536 : Nat) : Int) := by rw [hs, Int.natCast_ediv]; rfl
  refine ⟨hat.step hx hy hp, by rw [e'], ?_, hbel.setCell (p := ⟨T, i + j, none⟩) (Nat.le_refl _) _⟩
  rw [e]; exact hrow.set _ _

set_option maxRecDepth 100000 in
set_option maxHeartbeats 4000000 in
theorem rmul2_any (v1 v2 : Value) (x y : Int) (w : World) (h1 : RInt w v1 x) (h2 : RInt w v2 y) (l1 : (D.lim x.natAbs).length ≤ 100000000) (l2 : (D.lim y.natAbs).length ≤ 100000000) :
    Calls Try.prog 50 #[v1, v2] w fun e w' => ∃ v', e = .returned v' ∧ RInt w' v' (x * y) ∧ Below w.heap.size w w' := by
  obtain ⟨i0, hi, hz0, hz1, hz2⟩ := info_parts Try.info101
  obtain ⟨b1, n1, a1, c1, rfl, hn1, rfl, h01⟩ := h1
  obtain ⟨b2, n2, a2, c2, rfl, hn2, rfl, h02⟩ := h2
  have HE := hide (nboxes3 35 w (.bool b1) (.slice a1 (D.lim n1).length c1) (.bool b2) (.slice a2 (D.lim n2).length c2) (.bool false) (.slice none 0 0))
  have HN1 := hide (hn1.below HE.out.2.2.2)
  have HN2 := hide (hn2.below HE.out.2.2.2)
  rw [sg_abs] at l1 l2
  have HV1 := hide (D.val_lim n1)
  have HV2 := hide (D.val_lim n2)
  have HX := hide (D.ok_lim n1)
  have HY := hide (D.ok_lim n2)
  clear hn1 h01 hn2 h02
  obtain ⟨X, hX⟩ : ∃ X, X = D.lim n1 := ⟨_, rfl⟩
  obtain ⟨Y, hY⟩ : ∃ Y, Y = D.lim n2 := ⟨_, rfl⟩
  rw [← hX] at HE HN1 HN2 HV1 HX l1
  rw [← hY] at HE HN1 HN2 HV2 HY l2
  rw [← hX, ← hY]
  clear hX hY
  obtain ⟨_, a', c', he1, _, hm1, hcc1⟩ := HN1.out
  obtain ⟨_, a'', c'', he2, _, hm2, hcc2⟩ := HN2.out
  simp only [Value.slice.injEq] at he1 he2
  obtain ⟨rfl, _, rfl⟩ := he1
  obtain ⟨rfl, _, rfl⟩ := he2
  have HC1 := hide hcc1
  have HC2 := hide hcc2
  unfold maxLen at hm1 hm2
  clear hcc1 hcc2
  go_enter Try.func50, Try.ntmps50
  have HTS : Hid (w.heap.size + 1 + 1 + 1 = (((w.alloc (.cells #[.bool b1, .slice a1 X.length c1] 35)).alloc (.cells #[.bool b2, .slice a2 Y.length c2] 35)).alloc (.cells #[.bool false, .slice none 0 0] 35)).heap.size) := hide (by simp)
  go_wp2_with (at_make; refine wpList_make_full _ rfl _ _ 29 rfl (w.heap.size + 1 + 1 + 1) 101 i0 (.int .u32 0) 1 Try.underlying29 hi hz0 hz1 _ _ _ _ (X.length + Y.length + 1) rfl rfl ?_ ?_ ?_ ?_ ?_ ?_)
  · omega
  · omega
  · rw [hz2]; omega
  · unfold maxLen; omega
  · exact Nat.le_of_eq HTS.out
  intro w1 hown hgrow
  have HB1 : Hid (Below (w.heap.size + 1 + 1 + 1) (((w.alloc (.cells #[.bool b1, .slice a1 X.length c1] 35)).alloc (.cells #[.bool b2, .slice a2 Y.length c2] 35)).alloc (.cells #[.bool false, .slice none 0 0] 35)) w1) := hide ((Below.refl _ _).grown hgrow (Nat.le_of_eq HTS.out) (fun k hk => by simp at hk))
  have HR1 : Hid (RowC w1 (w.heap.size + 1 + 1 + 1) (w.heap.size + 1 + 1 + 1) (X.length + Y.length + 1) (X.length + Y.length + 1) (List.replicate (X.length + Y.length + 1) 0)) := hide (by rw [made_fil] at hown; unfold RowC; simpa [fil] using hown)
  clear hown hgrow
  obtain ⟨W0, hW0⟩ : ∃ W0, W0 = ((w.alloc (.cells #[.bool b1, .slice a1 X.length c1] 35)).alloc (.cells #[.bool b2, .slice a2 Y.length c2] 35)).alloc (.cells #[.bool false, .slice none 0 0] 35) := ⟨_, rfl⟩
  rw [← hW0] at HE HN1 HN2 HC1 HC2 HTS HB1
  clear hW0
  obtain ⟨T, hT⟩ : ∃ T, T = w.heap.size + 1 + 1 + 1 := ⟨_, rfl⟩
  have HTV := hide hT
  rw [← hT] at HTS HB1 HR1 ⊢
  go_wp2
  clear hT
  go_loopw [6] (fun iv wr => ∃ (i : Nat) (out : List Nat), i ≤ X.length ∧ iv = .int .i64 i ∧ ProdAt X Y i 0 0 out ∧ RowC wr T T (X.length + Y.length + 1) (X.length + Y.length + 1) out ∧ Below T W0 wr) (fun iv _ => X.length - (intOf iv).toNat)
  case atStart => exact ⟨0, _, Nat.zero_le _, rfl, ProdAt.start X Y, HR1.out, HB1.out⟩
  case round =>
    clear HR1 HB1
    obtain ⟨i, out, hiX, rfl, hat, hrow, hbel⟩ := hrel
    have HAT := hide hat
    have HRW := hide hrow
    have HBE := hide hbel
    have HXB := hide (HE.out.1.below hbel (by have := HTV.out; omega))
    have HYB := hide (HE.out.2.1.below hbel (by have := HTV.out; omega))
    have hxb := HXB.out.cell1
    clear hat hrow hbel
    by_cases hlt : i < X.length
    · go_wp2
      go_loopw [7, 8] (fun cv jv wx => ∃ (j c : Nat) (out : List Nat), j ≤ Y.length + 1 ∧ jv = .int .i64 j ∧ cv = .int .u64 c ∧ c < 65536 ∧ Hid (j ≤ Y.length ∨ c = 0) ∧ ProdAt X Y i j c out ∧ RowC wx T T (X.length + Y.length + 1) (X.length + Y.length + 1) out ∧ Below T W0 wx) (fun _ jv _ => Y.length + 1 - (intOf jv).toNat)
      case atStart => exact ⟨0, 0, out, by omega, rfl, rfl, by omega, .inr rfl, HAT.out, HRW.out, HBE.out⟩
      case round =>
        clear HXB HYB hxb HAT HRW HBE
        obtain ⟨j, c, out, hj, rfl, rfl, hc, HJ, hat, hrow, hbel⟩ := hrel
        have HAT := hide hat
        have HRW := hide hrow
        have HBE := hide hbel
        have HXB := hide (HE.out.1.below hbel (by have := HTV.out; omega))
        have HYB := hide (HE.out.2.1.below hbel (by have := HTV.out; omega))
        have hxb := HXB.out.cell1
        have hyb := HYB.out.cell1
        have HRM := hide (fun h => hat.room HX.out HY.out h)
        have HLN := hide hat.len
        by_cases hgo : j < Y.length ∨ 0 < c
        · have hjY : j ≤ Y.length := by
            rcases hgo with h | h
            · omega
            · exact HRM.out h
          have hfr := hrow.free (i + j)
          have hcl := hrow.cell hat.len (i + j) (by omega)
          have ho1 := dlm_lt hat.ok (i + j)
          have hx1 := dlm_lt HX.out i
          have hy1 := dlm_lt HY.out j
          clear hat hrow hbel
          obtain ⟨B1, o1, rfl, hxc⟩ := HC1.out (ne_nil hlt)
          have hxk : wr.cell? ⟨B1, o1 + i, none⟩ = some (.int .u32 (lm X i : Nat)) := by
            have h0 := hxc i hlt
            have hb0 := World.block_lt_of_cell? W0 _ h0
            rw [HBE.out.cell (by rw [HTS.out]; exact hb0)]; exact h0
          clear hxc
          by_cases hlj : j < Y.length
          · obtain ⟨B2, o2, rfl, hyc⟩ := HC2.out (ne_nil hlj)
            have hyk : wr.cell? ⟨B2, o2 + j, none⟩ = some (.int .u32 (lm Y j : Nat)) := by
              have h0 := hyc j hlj
              have hb0 := World.block_lt_of_cell? W0 _ h0
              rw [HBE.out.cell (by rw [HTS.out]; exact hb0)]; exact h0
            clear hyc
            have hp1 : (lm X i : Int) * (lm Y j : Int) ≤ 4294836225 := by
              have : lm X i * lm Y j ≤ 65535 * 65535 := Nat.mul_le_mul (by omega) (by omega)
              have e : ((lm X i * lm Y j : Nat) : Int) = (lm X i : Int) * (lm Y j : Int) := Int.natCast_mul _ _
              omega
            have hp0 : 0 ≤ (lm X i : Int) * (lm Y j : Int) := Int.mul_nonneg (by omega) (by omega)
            have hltI : (i : Int) < (X.length : Int) := by omega
            have hljI : (j : Int) < (Y.length : Int) := by omega
            go_wp2
            go_quiet (fail)
            go_wp2
            obtain ⟨k1, k2, k3, k4⟩ := mul2_next (wq := wr.drewN nq) (s := (c : Int) + (lm out (i + j) : Int) + (lm X i : Int) * (lm Y j : Int)) HAT.out HX.out HY.out (by rw [HLN.out]; omega) HRW.out (below_drewN HBE.out _) (by rw [Int.natCast_add, Int.natCast_add, Int.natCast_mul])
            have K1 := hide k1
            have K2 := hide k2
            have K3 := hide k3
            have K4 := hide k4
            clear k1 k2 k3 k4
            go_roundw
            case rel => exact ⟨j + 1, _, _, by omega, by go_num, K2.out, K1.out.c1, .inl (by omega), K1.out, K3.out, K4.out⟩
            case measure => simp [intOf]; omega
          · have hcp : 0 < c := by rcases hgo with h | h; exact absurd h hlj; exact h
            have HZY := hide (lm_over Y j (by omega))
            go_wp2
            obtain ⟨k1, k2, k3, k4⟩ := mul2_next (wq := wr) (s := (c : Int) + (lm out (i + j) : Int)) HAT.out HX.out HY.out (by rw [HLN.out]; omega) HRW.out HBE.out (by rw [HZY.out, Nat.mul_zero, Nat.add_zero, Int.natCast_add])
            have K1 := hide k1
            have K2 := hide k2
            have K3 := hide k3
            have K4 := hide k4
            have HC0 : Hid ((c + lm out (i + j) + lm X i * lm Y j) / 65536 = 0) := hide (by
              have h1 := K1.out
              rcases Nat.eq_zero_or_pos ((c + lm out (i + j) + lm X i * lm Y j) / 65536) with h | h
              · exact h
              · have := h1.room HX.out HY.out h; omega)
            clear k1 k2 k3 k4
            go_roundw
            case rel => exact ⟨j + 1, _, _, by omega, by go_num, K2.out, K1.out.c1, .inr HC0.out, K1.out, K3.out, K4.out⟩
            case measure => simp [intOf]; omega
        · have hc0 : c = 0 := by omega
          have hjY : Y.length ≤ j := by omega
          subst hc0
          clear hat hrow hbel
          go_wp2
          go_roundw
          case rel => exact ⟨i + 1, out, by omega, by go_num, HAT.out.last hjY, HRW.out, HBE.out⟩
          case measure => simp [intOf]; omega
    · have e : i = X.length := by omega
      subst e
      have hx0 := HXB.out.cell0
      have hy0 := HYB.out.cell0
      have HOW := hide (HRW.out.nums HAT.out.len (dok HAT.out.ok))
      have HWV := hide (HAT.out.whole (Nat.le_refl _))
      have HRB := hide (HE.out.2.2.1.below HBE.out (by have := HTV.out; omega))
      have HBW := hide (HE.out.2.2.2.trans (HBE.out.mono (by have := HTV.out; omega)))
      go_wp2_with fail
      refine (rnorm2_any (b1 != b2) _ out _ HOW.out HAT.out.ok).mono ?_
      rintro e w2 ⟨v2', rfl, ⟨b', n', a'', c'', rfl, hn', he, h0⟩, hb2⟩
      have HX2 := hide (HRB.out.step hb2)
      have HB2 := hide (HBW.out.trans (hb2.mono HBW.out.size))
      clear hb2 hx0 hy0 hxb
      have hc0 := HX2.out.cell0
      have hc1 := HX2.out.cell1
      have hf0 := HX2.out.free 0
      have hf1 := HX2.out.free 1
      go_wp2
      refine ret_ref rfl (w.heap.size + 1 + 1) _ _ _ _ rfl ((HX2.out.set0 _).set1 _) rfl ?_
      refine rhanded HX2.out (by simp) (by simp) (by omega) HB2.out hn' ?_ h0
      rw [← he, HWV.out, HV1.out, HV2.out, sg_mul]
end Go.Proofs.Ytlockdhhidghdab
