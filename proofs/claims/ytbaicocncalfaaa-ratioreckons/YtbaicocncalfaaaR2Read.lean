/- The document's answers for layer 2 (swageref02): Read. -/
import Derived.Test.YtbaicocncalfaaaTx
import Derived.Test.YtbaicocncalfaaaR2Law
namespace Go.Proofs.Ytbaicocncalfaaa
open Go.RowKit

/-- a number and a word are handed back -/
theorem ret_rat1 {fn : Func} {R : Ending → World → Prop} {a : Act} {w : World} {p u : Tmp} (h : fn.results = #[.cell p 30, .tmp u]) (g : Nat) (x y : Value)
    (hp : a.tmps.getD p undef = .pointer (some ⟨g, 0, none⟩)) (hg : Box2 w g 30 x y) (hd : a.defers = []) (hR : R (.returned (.tuple #[.agg #[x, y], a.tmps.getD u undef])) w) : bodyPost Try.prog fn R .ret a w := by
  refine bodyPost_ret ?_ hd hR
  have hp' : a.tmps[p]?.getD undef = .pointer (some ⟨g, 0, none⟩) := by simpa using hp
  simp [results, h, hp', asAddr, run_loadVar_row w g 30 30 #[x, y] (0, 0) _ hg Try.underlying30 rfl Try.infoRef]
theorem rzero (w : World) : RInt w (.agg #[.bool false, .slice none 0 0]) 0 := ⟨false, 0, none, 0, rfl, Nums.nil_mk _ _ _ (Nat.zero_le _), rfl, fun _ => rfl⟩
theorem nv_dlen (s : ByteArray) (k : Nat) (h : Good s k) (hk : k ≤ 65536) : (D.lim (Int.natAbs (nv s k : Int))).length ≤ 100000000 ∧ (D.lim (Int.natAbs ((nv s k : Int) * 10))).length ≤ 100000000 := by
  have h1 := nv_lt s k h
  have h2 : 10 ^ k ≤ D.BB ^ k := Nat.pow_le_pow_left (by decide) _
  have h3 : 10 ^ (k + 1) ≤ D.BB ^ (k + 1) := Nat.pow_le_pow_left (by decide) _
  constructor
  · refine Nat.le_trans (D.lim_length_le (k := k) ?_) (by omega)
    rw [Int.natAbs_natCast]; omega
  · refine Nat.le_trans (D.lim_length_le (k := k + 1) ?_) (by omega)
    rw [show ((nv s k : Int) * 10) = ((nv s k * 10 : Nat) : Int) by omega, Int.natAbs_natCast]
    rw [pow_succ10] at h3
    omega
theorem dig_len (x : Nat) (h : x ≤ 9) : (D.lim (Int.natAbs (x : Int))).length ≤ 100000000 :=
  Nat.le_trans (D.lim_length_le (k := 1) (by rw [Int.natAbs_natCast]; unfold D.BB; omega)) (by decide)
theorem dig_wrap64 (x : Nat) (h : x ≤ 9) : IntKind.i64.wrap (IntKind.u8.wrap (48 + (x : Int) - 48)) = (x : Int) := by rw [IntKind.wrap_i64, IntKind.wrap_u8]; omega
theorem cutP_no {s : ByteArray} (h : hp s 45 = false) : cutP s 45 = s := by unfold cutP; rw [h]; rfl
theorem cutP_yes {s : ByteArray} (h : hp s 45 = true) : cutP s 45 = rest1 s := by unfold cutP; rw [h]; rfl

set_option maxRecDepth 100000 in
set_option maxHeartbeats 4000000 in
theorem rread2_any (s : ByteArray) (w : World) (hs : s.size ≤ 65536) :
    Calls Try.prog 47 #[.string s] w fun e w' => ∃ v z p, e = .returned (.tuple #[v, .int .i64 p]) ∧ RInt w' v z ∧ ((∃ a b : Nat, IRd s 0 a b ∧ a ≠ 0 ∧ z = 0 ∧ p = (b : Int)) ∨ (IRd s z 0 0 ∧ p = -1)) ∧ Below w.heap.size w w' := by
  have HE := hide (nboxes2 30 w (.bool false) (.slice none 0 0) (.bool false) (.slice none 0 0))
  go_enter Try.func47, Try.ntmps47
  cases hc : hp s 45 with
  | false =>
    obtain ⟨d, hd⟩ : ∃ d, d = s := ⟨_, rfl⟩
    have HDS : Hid (s.size = d.size) := hide (by rw [hd])
    have HBT : Hid (∀ k, bt d k = bt s k) := hide (fun k => by rw [hd])
    have HRD : Hid (∀ xs a b, Rd d xs a b → a ≠ 0 → ∀ i, i = b + 0 → IRd s 0 a i) := hide (fun xs a b h ha i hi => .inr (.inr ⟨hs, by rw [hc]; simp, xs, a, b, by rw [cutP_no hc, ← hd]; exact h, .inl ⟨ha, rfl, rfl, by rw [cutP_no hc]; omega⟩⟩))
    have HRZ0 : Hid (0 < s.size → Good d d.size → IRd s (sg false (nv d d.size)) 0 0) := hide (fun h0 hg => .inr (.inr ⟨hs, by rw [hc]; simp, _, 0, 0, by rw [cutP_no hc, ← hd]; exact .inr (.inr (.inr ⟨by rw [hd]; exact hs, by rw [hd]; exact h0, hg, rfl, rfl, rfl⟩)), .inr ⟨rfl, by rw [hc, val_lim], rfl, rfl⟩⟩))
    have HC := hide hc
    clear hc hd
    by_cases h0 : s.size = 0
    · go_wp2
      refine ret_rat1 rfl w.heap.size _ _ rfl (Box2.new _ _ _ _) rfl ?_
      exact ⟨_, 0, 0, rfl, rzero _, .inl ⟨6, 0, HRD.out [] 6 0 (.inr (.inl ⟨by have := HDS.out; omega, rfl, rfl, rfl⟩)) (by decide) 0 rfl, by decide, rfl, rfl⟩, below_alloc _ _⟩
    · have hz0 : 0 < s.size := by omega
      have HRZ := hide (HRZ0.out hz0)
      have hb0 := bt_get s 0 hz0
      have hn45 : bt s 0 ≠ 45 := hp_no HC.out hz0
      have hne : (((bt s 0 : Nat) : Int) == 45) = false := by rw [beq_eq_false_iff_ne]; omega
      have hse : ¬ s = ByteArray.empty := fun h => by rw [h] at hz0; exact absurd hz0 (by decide)
      clear h0 HRZ0 hn45
      by_cases c1 : bt s 0 < 48
      · go_wp2
        refine ret_rat1 rfl w.heap.size _ _ rfl (Box2.new _ _ _ _) rfl ?_
        exact ⟨_, 0, 0, rfl, rzero _, .inl ⟨6, 0, HRD.out [] 6 0 (.inr (.inr (.inl ⟨by have := HDS.out; omega, 0, by have := HDS.out; omega, Good.zero _, fun f => by have := f.lo; rw [HBT.out] at this; omega, rfl, rfl, rfl⟩))) (by decide) 0 rfl, by decide, rfl, rfl⟩, below_alloc _ _⟩
      by_cases c2 : 57 < bt s 0
      · go_wp2
        refine ret_rat1 rfl w.heap.size _ _ rfl (Box2.new _ _ _ _) rfl ?_
        exact ⟨_, 0, 0, rfl, rzero _, .inl ⟨6, 0, HRD.out [] 6 0 (.inr (.inr (.inl ⟨by have := HDS.out; omega, 0, by have := HDS.out; omega, Good.zero _, fun f => by have := f.hi; rw [HBT.out] at this; omega, rfl, rfl, rfl⟩))) (by decide) 0 rfl, by decide, rfl, rfl⟩, below_alloc _ _⟩
      go_wp2
      have HB := hide HE.out.2.2
      have HR := hide HE.out.1
      have HO : Hid (RVar _ (w.heap.size + 1) false none 0 0 (nv d (0 - 0) : Int)) := hide ⟨HE.out.2.1, rzero _⟩
      clear HE hne c1 c2 hb0
      go_loopw [6] (fun iv wr => ∃ i : Nat, 0 ≤ i ∧ i ≤ s.size ∧ iv = .int .i64 i ∧ Good d (i - 0) ∧ Below w.heap.size w wr ∧ Box2 wr w.heap.size 30 (.bool false) (.slice none 0 0) ∧ ∃ sb m n c, RVar wr (w.heap.size + 1) sb m n c (nv d (i - 0) : Int)) (fun iv _ => s.size - (intOf iv).toNat)
      case atStart => exact ⟨0, Nat.le_refl _, by omega, rfl, Good.zero _, HB.out, HR.out, _, _, _, _, HO.out⟩
      case round =>
        clear HB HR HO
        obtain ⟨i, hi1, hi2, rfl, hg, hB, hR, sb, m, n, c, hV⟩ := hrel
        have HG := hide hg
        have HB := hide hB
        have HR := hide hR
        have HV := hide hV
        clear hg hB hR hV
        by_cases hlt : i < s.size
        · have hb := bt_get s i hlt
          have hbt := bt_get s 0 (by omega)
          have HEI : Hid (bt s i = bt d (i - 0)) := hide (by rw [HBT.out (i - 0)]; congr 1)
          have HE0 : Hid (bt s 0 = bt d 0) := hide (by rw [HBT.out 0])
          by_cases c1 : bt s i < 48
          · skip
            have hr0 := HR.out.cell0
            have hr1 := HR.out.cell1
            have hf0 := HR.out.free 0
            have hf1 := HR.out.free 1
            go_wp2
            refine ret_rat1 rfl w.heap.size _ _ rfl (HR.out.put _ _) rfl ?_
            exact ⟨_, 0, i, rfl, rzero _, .inl ⟨6, i, HRD.out _ 6 (i - 0) (.inr (.inr (.inl ⟨by have := HDS.out; omega, (i - 0), by have := HDS.out; omega, HG.out, fun f => by have := f.lo; have := HEI.out; omega, rfl, rfl, rfl⟩))) (by decide) i (by omega), by decide, rfl, rfl⟩, below_put HB.out (Nat.le_refl _) _ _⟩
          by_cases c2 : 57 < bt s i
          · skip
            have hr0 := HR.out.cell0
            have hr1 := HR.out.cell1
            have hf0 := HR.out.free 0
            have hf1 := HR.out.free 1
            go_wp2
            refine ret_rat1 rfl w.heap.size _ _ rfl (HR.out.put _ _) rfl ?_
            exact ⟨_, 0, i, rfl, rzero _, .inl ⟨6, i, HRD.out _ 6 (i - 0) (.inr (.inr (.inl ⟨by have := HDS.out; omega, (i - 0), by have := HDS.out; omega, HG.out, fun f => by have := f.hi; have := HEI.out; omega, rfl, rfl, rfl⟩))) (by decide) i (by omega), by decide, rfl, rfl⟩, below_put HB.out (Nat.le_refl _) _ _⟩
          by_cases c3 : i = 1 ∧ bt s 0 = 48
          · obtain ⟨c3, c4⟩ := c3
            subst c3
            rw [c4] at hbt
            have hr0 := HR.out.cell0
            have hr1 := HR.out.cell1
            have hf0 := HR.out.free 0
            have hf1 := HR.out.free 1
            go_wp2
            refine ret_rat1 rfl w.heap.size _ _ rfl (HR.out.put _ _) rfl ?_
            exact ⟨_, 0, 1, rfl, rzero _, .inl ⟨6, 1, HRD.out _ 6 (1 - 0) (.inr (.inr (.inl ⟨by have := HDS.out; omega, (1 - 0), by have := HDS.out; omega, HG.out, fun f => f.lead (by omega) (by have := HE0.out; omega), rfl, rfl, rfl⟩))) (by decide) 1 (by omega), by decide, rfl, rfl⟩, below_put HB.out (Nat.le_refl _) _ _⟩
          have HF0 := hide (show Fine d (i - 0) from ⟨by have := HEI.out; omega, by have := HEI.out; omega, fun h1 h2 => by
            have f1 := HG.out 0 (by omega)
            by_cases h3 : i = 1
            · exact c3 ⟨h3, by have := HE0.out; omega⟩
            · exact (HG.out 1 (by omega)).lead (Nat.le_refl _) h2⟩)
          obtain ⟨x, hx⟩ : ∃ x, bt s i = 48 + x := ⟨bt s i - 48, by omega⟩
          have h9 : x ≤ 9 := by omega
          have HX : Hid (nv d (i + 1 - 0) = nv d (i - 0) * 10 + x) := hide (by rw [show i + 1 - 0 = (i - 0) + 1 by omega, nv, ← HEI.out, hx]; omega)
          have HLN := hide (nv_dlen d (i - 0) HG.out (by omega))
          rw [hx] at hb
          by_cases h3 : i = 1
          · subst h3
            have h4' : (((bt s 0 : Nat) : Int) == 48) = false := by rw [beq_eq_false_iff_ne]; intro h4; exact c3 ⟨rfl, by omega⟩
            clear c3 hx
            go_wp2_with fail
            refine wp_calm (fun w' => Below w.heap.size w w' ∧ Box2 w' w.heap.size 30 (.bool false) (.slice none 0 0) ∧ RVar w' (w.heap.size + 1) sb m n c (nv d (1 - 0) : Int)) (fun j => j != 10) 11 #[false, false, false, false, false, false, false, false, false, false, false] (by kernel_rfl) rfl rfl ?_
            have HF := hide (And.intro (HB.out.drew) (And.intro (HR.out.drew) (HV.out.drew)))
            generalize wr.drew = wrd at *
            refine Calm.take (i := 0) (v := ?_) (a' := ?_) (l' := #[true, false, false, false, false, false, false, false, false, false, false]) (d := some 74) rfl (by kernel_rfl) (by kernel_rfl) (by kernel_rfl) (by kernel_rfl) (fun _ _ _ h => h) HF.out rfl ?_ rfl rfl ?_ ?_
            rotate_left
            · intro w' hF; have f10 := hF.2.1.cell0; have f11 := hF.2.1.cell1; have f20 := hF.2.2.box.cell0; have f21 := hF.2.2.box.cell1; clear hF; go_simp; try rfl
            rotate_left
            · simp only [Act.put]; exact rfl
            refine Calm.take (i := 3) (v := ?_) (a' := ?_) (l' := #[true, false, false, true, false, false, false, false, false, false, false]) (d := some 77) rfl (by kernel_rfl) (by kernel_rfl) (by kernel_rfl) (by kernel_rfl) (fun _ _ _ h => h) HF.out rfl ?_ rfl rfl ?_ ?_
            rotate_left
            · intro w' hF; clear hF; go_simp; try rfl
            rotate_left
            · simp only [Act.put]; exact rfl
            refine Calm.take (i := 4) (v := ?_) (a' := ?_) (l' := #[true, false, false, true, true, false, false, false, false, false, false]) (d := some 78) rfl (by kernel_rfl) (by kernel_rfl) (by kernel_rfl) (by kernel_rfl) (fun _ _ _ h => h) HF.out rfl ?_ rfl rfl ?_ ?_
            rotate_left
            · intro w' hF; clear hF; go_simp; try rfl
            rotate_left
            · simp only [Act.put]; exact rfl
            refine Calm.take (i := 5) (v := ?_) (a' := ?_) (l' := #[true, false, false, true, true, true, false, false, false, false, false]) (d := some 79) rfl (by kernel_rfl) (by kernel_rfl) (by kernel_rfl) (by kernel_rfl) (fun _ _ _ h => h) HF.out rfl ?_ rfl rfl ?_ ?_
            rotate_left
            · intro w' hF; clear hF; go_simp; try rfl
            rotate_left
            · simp only [Act.put]; exact rfl
            refine Calm.take (i := 6) (v := ?_) (a' := ?_) (l' := #[true, false, false, true, true, true, true, false, false, false, false]) (d := some 80) rfl (by kernel_rfl) (by kernel_rfl) (by kernel_rfl) (by kernel_rfl) (fun _ _ _ h => h) HF.out rfl ?_ rfl rfl ?_ ?_
            rotate_left
            · intro w' hF; clear hF; go_simp; try rfl
            rotate_left
            · simp only [Act.put]; exact rfl
            refine Calm.take (i := 7) (v := ?_) (a' := ?_) (l' := #[true, false, false, true, true, true, true, true, false, false, false]) (d := some 81) rfl (by kernel_rfl) (by kernel_rfl) (by kernel_rfl) (by kernel_rfl) (fun _ _ _ h => h) HF.out rfl ?_ rfl rfl ?_ ?_
            rotate_left
            · intro w' hF; clear hF; go_simp; try rfl
            rotate_left
            · simp only [Act.put]; exact rfl
            refine Calm.one (i := 1) (l' := #[true, true, false, true, true, true, true, true, false, false, false]) (by kernel_rfl) rfl rfl rfl fun K hK => ?_
            go_simp
            refine (rof_any 10 _ (by decide) (by decide)).mono ?_
            rintro e u1 ⟨v1, rfl, n1, hb⟩
            have HF' := hide (And.intro (HF.out.1.trans ((hb).mono HF.out.1.size)) (And.intro (HF.out.2.1.step (hb)) (HF.out.2.2.step (hb))))
            have T1 := hide (n1)
            refine hK _ _ (fun _ => HF'.out) ?_
            clear hK K HF hb n1
            have HF := hide HF'.out
            clear HF'
            refine Calm.one (i := 2) (l' := #[true, true, true, true, true, true, true, true, false, false, false]) (by kernel_rfl) rfl rfl rfl fun K hK => ?_
            go_simp
            refine (rmul2_any _ _ (nv d (1 - 0) : Int) 10 _ HF.out.2.2.int T1.out HLN.out.1 (by decide)).mono ?_
            rintro e u2 ⟨v2, rfl, n2, hb⟩
            clear T1
            have HF' := hide (And.intro (HF.out.1.trans ((hb).mono HF.out.1.size)) (And.intro (HF.out.2.1.step (hb)) (HF.out.2.2.step (hb))))
            have T2 := hide (n2)
            refine hK _ _ (fun _ => HF'.out) ?_
            clear hK K HF hb n2
            have HF := hide HF'.out
            clear HF'
            refine Calm.one (i := 8) (l' := #[true, true, true, true, true, true, true, true, true, false, false]) (by kernel_rfl) rfl rfl rfl fun K hK => ?_
            go_simp
            rw [dig_wrap64 x h9]
            refine (rof_any (x : Int) _ (by omega) (by omega)).mono ?_
            rintro e u3 ⟨v3, rfl, n3, hb⟩
            replace T2 := hide (T2.out.below (hb))
            have HF' := hide (And.intro (HF.out.1.trans ((hb).mono HF.out.1.size)) (And.intro (HF.out.2.1.step (hb)) (HF.out.2.2.step (hb))))
            have T3 := hide (n3)
            refine hK _ _ (fun _ => HF'.out) ?_
            clear hK K HF hb n3
            have HF := hide HF'.out
            clear HF'
            refine Calm.one (i := 9) (l' := #[true, true, true, true, true, true, true, true, true, true, false]) (by kernel_rfl) rfl rfl rfl fun K hK => ?_
            go_simp
            refine (radd2_any _ _ ((nv d (1 - 0) : Int) * 10) (x : Int) _ T2.out T3.out HLN.out.2 (dig_len x h9)).mono ?_
            rintro e u4 ⟨v4, rfl, n4, hb⟩
            obtain ⟨b4, k4, a4, c4, rfl, m4, e4, z4⟩ := n4
            have n4 : RInt u4 (.agg #[.bool b4, .slice a4 (D.lim k4).length c4]) (((nv d (1 - 0) : Int) * 10) + (x : Int)) := ⟨b4, k4, a4, c4, rfl, m4, e4, z4⟩
            clear T2
            clear T3
            have HF' := hide (And.intro (HF.out.1.trans ((hb).mono HF.out.1.size)) (And.intro (HF.out.2.1.step (hb)) (HF.out.2.2.step (hb))))
            have T4 := hide (n4)
            refine hK _ _ (fun _ => HF'.out) ?_
            clear hK K HF hb n4 m4 e4 z4
            have HF := hide HF'.out
            clear HF'
            refine Calm.one (i := 10) (l' := #[true, true, true, true, true, true, true, true, true, true, true]) (by kernel_rfl) rfl rfl rfl fun K hK => ?_
            have hc0 := HF.out.2.2.box.cell0
            have hc1 := HF.out.2.2.box.cell1
            have hf0 := HF.out.2.2.box.free 0
            have hf1 := HF.out.2.2.box.free 1
            go_simp
            refine hK _ _ (fun h => absurd h (by decide)) ?_
            clear hK K
            refine Calm.done (by kernel_rfl) ?_
            go_wp2
            go_roundw
            case rel => exact ⟨1 + 1, by omega, by omega, by go_num, by rw [show 1 + 1 - 0 = 1 - 0 + 1 by omega]; exact HG.out.succ HF0.out, below_put HF.out.1 (Nat.le_succ _) _ _, HF.out.2.1.other (by omega) _ _, b4, a4, _, c4, ⟨HF.out.2.2.box.put _ _, by rw [HX.out]; have := T4.out.keep (keeps2 HF.out.2.2.box (by simp) (by simp) (.bool b4) (.slice a4 (D.lim k4).length c4)); simpa using this⟩⟩
            case measure => simp [intOf]; omega
          · have h3' : ((i : Int) == 1) = false := by rw [beq_eq_false_iff_ne]; omega
            clear c3 hx h3
            go_wp2_with fail
            refine wp_calm (fun w' => Below w.heap.size w w' ∧ Box2 w' w.heap.size 30 (.bool false) (.slice none 0 0) ∧ RVar w' (w.heap.size + 1) sb m n c (nv d (i - 0) : Int)) (fun j => j != 10) 11 #[false, false, false, false, false, false, false, false, false, false, false] (by kernel_rfl) rfl rfl ?_
            have HF := hide (And.intro (HB.out.drew) (And.intro (HR.out.drew) (HV.out.drew)))
            generalize wr.drew = wrd at *
            refine Calm.take (i := 0) (v := ?_) (a' := ?_) (l' := #[true, false, false, false, false, false, false, false, false, false, false]) (d := some 74) rfl (by kernel_rfl) (by kernel_rfl) (by kernel_rfl) (by kernel_rfl) (fun _ _ _ h => h) HF.out rfl ?_ rfl rfl ?_ ?_
            rotate_left
            · intro w' hF; have f10 := hF.2.1.cell0; have f11 := hF.2.1.cell1; have f20 := hF.2.2.box.cell0; have f21 := hF.2.2.box.cell1; clear hF; go_simp; try rfl
            rotate_left
            · simp only [Act.put]; exact rfl
            refine Calm.take (i := 3) (v := ?_) (a' := ?_) (l' := #[true, false, false, true, false, false, false, false, false, false, false]) (d := some 77) rfl (by kernel_rfl) (by kernel_rfl) (by kernel_rfl) (by kernel_rfl) (fun _ _ _ h => h) HF.out rfl ?_ rfl rfl ?_ ?_
            rotate_left
            · intro w' hF; clear hF; go_simp; try rfl
            rotate_left
            · simp only [Act.put]; exact rfl
            refine Calm.take (i := 4) (v := ?_) (a' := ?_) (l' := #[true, false, false, true, true, false, false, false, false, false, false]) (d := some 78) rfl (by kernel_rfl) (by kernel_rfl) (by kernel_rfl) (by kernel_rfl) (fun _ _ _ h => h) HF.out rfl ?_ rfl rfl ?_ ?_
            rotate_left
            · intro w' hF; clear hF; go_simp; try rfl
            rotate_left
            · simp only [Act.put]; exact rfl
            refine Calm.take (i := 5) (v := ?_) (a' := ?_) (l' := #[true, false, false, true, true, true, false, false, false, false, false]) (d := some 79) rfl (by kernel_rfl) (by kernel_rfl) (by kernel_rfl) (by kernel_rfl) (fun _ _ _ h => h) HF.out rfl ?_ rfl rfl ?_ ?_
            rotate_left
            · intro w' hF; clear hF; go_simp; try rfl
            rotate_left
            · simp only [Act.put]; exact rfl
            refine Calm.take (i := 6) (v := ?_) (a' := ?_) (l' := #[true, false, false, true, true, true, true, false, false, false, false]) (d := some 80) rfl (by kernel_rfl) (by kernel_rfl) (by kernel_rfl) (by kernel_rfl) (fun _ _ _ h => h) HF.out rfl ?_ rfl rfl ?_ ?_
            rotate_left
            · intro w' hF; clear hF; go_simp; try rfl
            rotate_left
            · simp only [Act.put]; exact rfl
            refine Calm.take (i := 7) (v := ?_) (a' := ?_) (l' := #[true, false, false, true, true, true, true, true, false, false, false]) (d := some 81) rfl (by kernel_rfl) (by kernel_rfl) (by kernel_rfl) (by kernel_rfl) (fun _ _ _ h => h) HF.out rfl ?_ rfl rfl ?_ ?_
            rotate_left
            · intro w' hF; clear hF; go_simp; try rfl
            rotate_left
            · simp only [Act.put]; exact rfl
            refine Calm.one (i := 1) (l' := #[true, true, false, true, true, true, true, true, false, false, false]) (by kernel_rfl) rfl rfl rfl fun K hK => ?_
            go_simp
            refine (rof_any 10 _ (by decide) (by decide)).mono ?_
            rintro e u1 ⟨v1, rfl, n1, hb⟩
            have HF' := hide (And.intro (HF.out.1.trans ((hb).mono HF.out.1.size)) (And.intro (HF.out.2.1.step (hb)) (HF.out.2.2.step (hb))))
            have T1 := hide (n1)
            refine hK _ _ (fun _ => HF'.out) ?_
            clear hK K HF hb n1
            have HF := hide HF'.out
            clear HF'
            refine Calm.one (i := 2) (l' := #[true, true, true, true, true, true, true, true, false, false, false]) (by kernel_rfl) rfl rfl rfl fun K hK => ?_
            go_simp
            refine (rmul2_any _ _ (nv d (i - 0) : Int) 10 _ HF.out.2.2.int T1.out HLN.out.1 (by decide)).mono ?_
            rintro e u2 ⟨v2, rfl, n2, hb⟩
            clear T1
            have HF' := hide (And.intro (HF.out.1.trans ((hb).mono HF.out.1.size)) (And.intro (HF.out.2.1.step (hb)) (HF.out.2.2.step (hb))))
            have T2 := hide (n2)
            refine hK _ _ (fun _ => HF'.out) ?_
            clear hK K HF hb n2
            have HF := hide HF'.out
            clear HF'
            refine Calm.one (i := 8) (l' := #[true, true, true, true, true, true, true, true, true, false, false]) (by kernel_rfl) rfl rfl rfl fun K hK => ?_
            go_simp
            rw [dig_wrap64 x h9]
            refine (rof_any (x : Int) _ (by omega) (by omega)).mono ?_
            rintro e u3 ⟨v3, rfl, n3, hb⟩
            replace T2 := hide (T2.out.below (hb))
            have HF' := hide (And.intro (HF.out.1.trans ((hb).mono HF.out.1.size)) (And.intro (HF.out.2.1.step (hb)) (HF.out.2.2.step (hb))))
            have T3 := hide (n3)
            refine hK _ _ (fun _ => HF'.out) ?_
            clear hK K HF hb n3
            have HF := hide HF'.out
            clear HF'
            refine Calm.one (i := 9) (l' := #[true, true, true, true, true, true, true, true, true, true, false]) (by kernel_rfl) rfl rfl rfl fun K hK => ?_
            go_simp
            refine (radd2_any _ _ ((nv d (i - 0) : Int) * 10) (x : Int) _ T2.out T3.out HLN.out.2 (dig_len x h9)).mono ?_
            rintro e u4 ⟨v4, rfl, n4, hb⟩
            obtain ⟨b4, k4, a4, c4, rfl, m4, e4, z4⟩ := n4
            have n4 : RInt u4 (.agg #[.bool b4, .slice a4 (D.lim k4).length c4]) (((nv d (i - 0) : Int) * 10) + (x : Int)) := ⟨b4, k4, a4, c4, rfl, m4, e4, z4⟩
            clear T2
            clear T3
            have HF' := hide (And.intro (HF.out.1.trans ((hb).mono HF.out.1.size)) (And.intro (HF.out.2.1.step (hb)) (HF.out.2.2.step (hb))))
            have T4 := hide (n4)
            refine hK _ _ (fun _ => HF'.out) ?_
            clear hK K HF hb n4 m4 e4 z4
            have HF := hide HF'.out
            clear HF'
            refine Calm.one (i := 10) (l' := #[true, true, true, true, true, true, true, true, true, true, true]) (by kernel_rfl) rfl rfl rfl fun K hK => ?_
            have hc0 := HF.out.2.2.box.cell0
            have hc1 := HF.out.2.2.box.cell1
            have hf0 := HF.out.2.2.box.free 0
            have hf1 := HF.out.2.2.box.free 1
            go_simp
            refine hK _ _ (fun h => absurd h (by decide)) ?_
            clear hK K
            refine Calm.done (by kernel_rfl) ?_
            go_wp2
            go_roundw
            case rel => exact ⟨i + 1, by omega, by omega, by go_num, by rw [show i + 1 - 0 = i - 0 + 1 by omega]; exact HG.out.succ HF0.out, below_put HF.out.1 (Nat.le_succ _) _ _, HF.out.2.1.other (by omega) _ _, b4, a4, _, c4, ⟨HF.out.2.2.box.put _ _, by rw [HX.out]; have := T4.out.keep (keeps2 HF.out.2.2.box (by simp) (by simp) (.bool b4) (.slice a4 (D.lim k4).length c4)); simpa using this⟩⟩
            case measure => simp [intOf]; omega
        · have e : i = s.size := by omega
          subst e
          clear hi1 hi2 hlt
          have hv1 := HV.out.box.cell1
          have hv0 := HV.out.box.cell0
          obtain ⟨b4, k4, a4, c4, e3, m4, e4, z4⟩ := HV.out.int
          simp only [Value.agg.injEq, Array.mk.injEq, List.cons.injEq, Value.bool.injEq, Value.slice.injEq, and_true] at e3
          obtain ⟨rfl, rfl, rfl, rfl⟩ := e3
          have HK : Hid (k4 = nv d d.size) := hide (by have h1 := congrArg Int.natAbs e4; rw [sg_abs, Int.natAbs_natCast, show s.size - 0 = d.size by have := HDS.out; omega] at h1; exact h1.symm)
          have HM := hide m4
          clear m4 e4 z4
          go_wp2_with fail
          refine (rnorm2_any false _ (D.lim k4) _ HM.out (D.ok_lim k4)).mono ?_
          rintro e w2 ⟨v2, rfl, hr2, hb2⟩
          rw [D.val_lim, HK.out] at hr2
          obtain ⟨b5, k5, a5, c5, rfl, m5, e5, z5⟩ := hr2
          replace HR := hide (HR.out.step hb2)
          replace HB := hide (HB.out.trans (hb2.mono HB.out.size))
          have hc0 := HR.out.cell0
          have hc1 := HR.out.cell1
          have hf0 := HR.out.free 0
          have hf1 := HR.out.free 1
          clear hb2 hv0 hv1
          go_wp2
          refine ret_rat1 rfl w.heap.size _ _ rfl (HR.out.put _ _) rfl ?_
          exact ⟨_, _, -1, rfl, ⟨b5, k5, a5, c5, rfl, keeps2 HR.out (by simp) (by simp) _ _ _ _ m5, e5, z5⟩, .inr ⟨HRZ.out (show Good d d.size by have := HG.out; rwa [show s.size - 0 = d.size by have := HDS.out; omega] at this), rfl⟩, below_put HB.out (Nat.le_refl _) _ _⟩
  | true =>
    obtain ⟨hz0, hm0⟩ := hp_yes hc
    have hm : bt s 0 = 45 := hm0
    clear hm0
    obtain ⟨d, hd⟩ : ∃ d, d = rest1 s := ⟨_, rfl⟩
    have HDS : Hid (s.size = d.size + 1) := hide (by rw [hd, rest1_size]; omega)
    have HBT : Hid (∀ k, bt d k = bt s (k + 1)) := hide (fun k => by rw [hd, bt_rest])
    have HB48 : Hid (bt s 1 = 48 → 1 < s.size → IRd s 0 6 1) := hide (fun h1 h2 => .inr (.inl ⟨hs, hc, by unfold hp; exact decide_eq_true ⟨by rw [rest1_size]; omega, by rw [bt_rest]; exact h1⟩, rfl, rfl, rfl⟩))
    have HRD : Hid (∀ xs a b, Rd d xs a b → a ≠ 0 → ∀ i, i = b + 1 → bt d 0 ≠ 48 → IRd s 0 a i) := hide (fun xs a b h ha i hi h48 => .inr (.inr ⟨hs, fun h => h48 (by rw [hd]; exact (hp_yes h.2).2), xs, a, b, by rw [cutP_yes hc, ← hd]; exact h, .inl ⟨ha, rfl, rfl, by rw [cutP_yes hc, rest1_size]; omega⟩⟩))
    have HRZ0 : Hid (0 < d.size → bt d 0 ≠ 48 → Good d d.size → IRd s (sg true (nv d d.size)) 0 0) := hide (fun h0 h48 hg => .inr (.inr ⟨hs, fun h => h48 (by rw [hd]; exact (hp_yes h.2).2), _, 0, 0, by rw [cutP_yes hc, ← hd]; exact .inr (.inr (.inr ⟨by rw [hd, rest1_size]; omega, h0, hg, rfl, rfl, rfl⟩)), .inr ⟨rfl, by rw [hc, val_lim], rfl, rfl⟩⟩))
    have HC := hide hc
    have hb0 := bt_get s 0 hz0
    rw [hm] at hb0
    clear hc hd
    by_cases h1 : s.size = 1
    · have hI : ((1 : Int) ≤ (s.size : Int)) := by omega
      have hI2 : ((s.size : Int) ≤ 1) := by omega
      go_wp2
      refine ret_rat1 rfl w.heap.size _ _ rfl (Box2.new _ _ _ _) rfl ?_
      have hd0 : d.size = 0 := by have := HDS.out; omega
      exact ⟨_, 0, 1, rfl, rzero _, .inl ⟨6, 1, HRD.out [] 6 0 (.inr (.inl ⟨hd0, rfl, rfl, rfl⟩)) (by decide) 1 rfl (by unfold bt; rw [dif_neg (by omega)]; decide), by decide, rfl, rfl⟩, below_alloc _ _⟩
    · have hz1 : 1 < s.size := by omega
      have hb1 := bt_get s 1 hz1
      by_cases c1 : bt s 1 < 48
      · go_wp2
        refine ret_rat1 rfl w.heap.size _ _ rfl (Box2.new _ _ _ _) rfl ?_
        exact ⟨_, 0, 1, rfl, rzero _, .inl ⟨6, 1, HRD.out [] 6 0 (.inr (.inr (.inl ⟨by have := HDS.out; omega, 0, by have := HDS.out; omega, Good.zero _, fun f => by have := f.lo; rw [HBT.out, Nat.zero_add] at this; omega, rfl, rfl, rfl⟩))) (by decide) 1 rfl (by rw [HBT.out, Nat.zero_add]; omega), by decide, rfl, rfl⟩, below_alloc _ _⟩
      by_cases c2 : 57 < bt s 1
      · go_wp2
        refine ret_rat1 rfl w.heap.size _ _ rfl (Box2.new _ _ _ _) rfl ?_
        exact ⟨_, 0, 1, rfl, rzero _, .inl ⟨6, 1, HRD.out [] 6 0 (.inr (.inr (.inl ⟨by have := HDS.out; omega, 0, by have := HDS.out; omega, Good.zero _, fun f => by have := f.hi; rw [HBT.out, Nat.zero_add] at this; omega, rfl, rfl, rfl⟩))) (by decide) 1 rfl (by rw [HBT.out, Nat.zero_add]; omega), by decide, rfl, rfl⟩, below_alloc _ _⟩
      by_cases c3 : bt s 1 = 48
      · rw [c3] at hb1
        go_wp2
        refine ret_rat1 rfl w.heap.size _ _ rfl (Box2.new _ _ _ _) rfl ?_
        exact ⟨_, 0, 1, rfl, rzero _, .inl ⟨6, 1, HB48.out c3 hz1, by decide, rfl, rfl⟩, below_alloc _ _⟩
      have H48 : Hid (bt d 0 ≠ 48) := hide (by rw [HBT.out, Nat.zero_add]; exact c3)
      have hne : (((bt s 1 : Nat) : Int) == 48) = false := by rw [beq_eq_false_iff_ne]; omega
      have HRZ := hide (HRZ0.out (by have := HDS.out; omega) H48.out)
      replace HRD := hide (fun xs a b h ha i hi => HRD.out xs a b h ha i hi H48.out)
      clear HRZ0 h1
      go_wp2
      have HB := hide HE.out.2.2
      have HR := hide HE.out.1
      have HO : Hid (RVar _ (w.heap.size + 1) false none 0 0 (nv d (1 - 1) : Int)) := hide ⟨HE.out.2.1, rzero _⟩
      clear HE hne c1 c2 c3 hb0 hb1
      go_loopw [6] (fun iv wr => ∃ i : Nat, 1 ≤ i ∧ i ≤ s.size ∧ iv = .int .i64 i ∧ Good d (i - 1) ∧ Below w.heap.size w wr ∧ Box2 wr w.heap.size 30 (.bool false) (.slice none 0 0) ∧ ∃ sb m n c, RVar wr (w.heap.size + 1) sb m n c (nv d (i - 1) : Int)) (fun iv _ => s.size - (intOf iv).toNat)
      case atStart => exact ⟨1, Nat.le_refl _, by omega, rfl, Good.zero _, HB.out, HR.out, _, _, _, _, HO.out⟩
      case round =>
        clear HB HR HO
        obtain ⟨i, hi1, hi2, rfl, hg, hB, hR, sb, m, n, c, hV⟩ := hrel
        have HG := hide hg
        have HB := hide hB
        have HR := hide hR
        have HV := hide hV
        clear hg hB hR hV
        by_cases hlt : i < s.size
        · have hb := bt_get s i hlt
          have hbt := bt_get s 1 (by omega)
          have HEI : Hid (bt s i = bt d (i - 1)) := hide (by rw [HBT.out (i - 1)]; congr 1; omega)
          have HE0 : Hid (bt s 1 = bt d 0) := hide (by rw [HBT.out 0])
          by_cases c1 : bt s i < 48
          · skip
            have hr0 := HR.out.cell0
            have hr1 := HR.out.cell1
            have hf0 := HR.out.free 0
            have hf1 := HR.out.free 1
            go_wp2
            refine ret_rat1 rfl w.heap.size _ _ rfl (HR.out.put _ _) rfl ?_
            exact ⟨_, 0, i, rfl, rzero _, .inl ⟨6, i, HRD.out _ 6 (i - 1) (.inr (.inr (.inl ⟨by have := HDS.out; omega, (i - 1), by have := HDS.out; omega, HG.out, fun f => by have := f.lo; have := HEI.out; omega, rfl, rfl, rfl⟩))) (by decide) i (by omega), by decide, rfl, rfl⟩, below_put HB.out (Nat.le_refl _) _ _⟩
          by_cases c2 : 57 < bt s i
          · skip
            have hr0 := HR.out.cell0
            have hr1 := HR.out.cell1
            have hf0 := HR.out.free 0
            have hf1 := HR.out.free 1
            go_wp2
            refine ret_rat1 rfl w.heap.size _ _ rfl (HR.out.put _ _) rfl ?_
            exact ⟨_, 0, i, rfl, rzero _, .inl ⟨6, i, HRD.out _ 6 (i - 1) (.inr (.inr (.inl ⟨by have := HDS.out; omega, (i - 1), by have := HDS.out; omega, HG.out, fun f => by have := f.hi; have := HEI.out; omega, rfl, rfl, rfl⟩))) (by decide) i (by omega), by decide, rfl, rfl⟩, below_put HB.out (Nat.le_refl _) _ _⟩
          by_cases c3 : i = 2 ∧ bt s 1 = 48
          · obtain ⟨c3, c4⟩ := c3
            subst c3
            rw [c4] at hbt
            have hr0 := HR.out.cell0
            have hr1 := HR.out.cell1
            have hf0 := HR.out.free 0
            have hf1 := HR.out.free 1
            go_wp2
            refine ret_rat1 rfl w.heap.size _ _ rfl (HR.out.put _ _) rfl ?_
            exact ⟨_, 0, 2, rfl, rzero _, .inl ⟨6, 2, HRD.out _ 6 (2 - 1) (.inr (.inr (.inl ⟨by have := HDS.out; omega, (2 - 1), by have := HDS.out; omega, HG.out, fun f => f.lead (by omega) (by have := HE0.out; omega), rfl, rfl, rfl⟩))) (by decide) 2 (by omega), by decide, rfl, rfl⟩, below_put HB.out (Nat.le_refl _) _ _⟩
          have HF0 := hide (show Fine d (i - 1) from ⟨by have := HEI.out; omega, by have := HEI.out; omega, fun h1 h2 => by
            have f1 := HG.out 0 (by omega)
            by_cases h3 : i = 2
            · exact c3 ⟨h3, by have := HE0.out; omega⟩
            · exact (HG.out 1 (by omega)).lead (Nat.le_refl _) h2⟩)
          obtain ⟨x, hx⟩ : ∃ x, bt s i = 48 + x := ⟨bt s i - 48, by omega⟩
          have h9 : x ≤ 9 := by omega
          have HX : Hid (nv d (i + 1 - 1) = nv d (i - 1) * 10 + x) := hide (by rw [show i + 1 - 1 = (i - 1) + 1 by omega, nv, ← HEI.out, hx]; omega)
          have HLN := hide (nv_dlen d (i - 1) HG.out (by omega))
          rw [hx] at hb
          by_cases h3 : i = 2
          · subst h3
            have h4' : (((bt s 1 : Nat) : Int) == 48) = false := by rw [beq_eq_false_iff_ne]; intro h4; exact c3 ⟨rfl, by omega⟩
            clear c3 hx
            go_wp2_with fail
            refine wp_calm (fun w' => Below w.heap.size w w' ∧ Box2 w' w.heap.size 30 (.bool false) (.slice none 0 0) ∧ RVar w' (w.heap.size + 1) sb m n c (nv d (2 - 1) : Int)) (fun j => j != 10) 11 #[false, false, false, false, false, false, false, false, false, false, false] (by kernel_rfl) rfl rfl ?_
            have HF := hide (And.intro (HB.out.drew) (And.intro (HR.out.drew) (HV.out.drew)))
            generalize wr.drew = wrd at *
            refine Calm.take (i := 0) (v := ?_) (a' := ?_) (l' := #[true, false, false, false, false, false, false, false, false, false, false]) (d := some 74) rfl (by kernel_rfl) (by kernel_rfl) (by kernel_rfl) (by kernel_rfl) (fun _ _ _ h => h) HF.out rfl ?_ rfl rfl ?_ ?_
            rotate_left
            · intro w' hF; have f10 := hF.2.1.cell0; have f11 := hF.2.1.cell1; have f20 := hF.2.2.box.cell0; have f21 := hF.2.2.box.cell1; clear hF; go_simp; try rfl
            rotate_left
            · simp only [Act.put]; exact rfl
            refine Calm.take (i := 3) (v := ?_) (a' := ?_) (l' := #[true, false, false, true, false, false, false, false, false, false, false]) (d := some 77) rfl (by kernel_rfl) (by kernel_rfl) (by kernel_rfl) (by kernel_rfl) (fun _ _ _ h => h) HF.out rfl ?_ rfl rfl ?_ ?_
            rotate_left
            · intro w' hF; clear hF; go_simp; try rfl
            rotate_left
            · simp only [Act.put]; exact rfl
            refine Calm.take (i := 4) (v := ?_) (a' := ?_) (l' := #[true, false, false, true, true, false, false, false, false, false, false]) (d := some 78) rfl (by kernel_rfl) (by kernel_rfl) (by kernel_rfl) (by kernel_rfl) (fun _ _ _ h => h) HF.out rfl ?_ rfl rfl ?_ ?_
            rotate_left
            · intro w' hF; clear hF; go_simp; try rfl
            rotate_left
            · simp only [Act.put]; exact rfl
            refine Calm.take (i := 5) (v := ?_) (a' := ?_) (l' := #[true, false, false, true, true, true, false, false, false, false, false]) (d := some 79) rfl (by kernel_rfl) (by kernel_rfl) (by kernel_rfl) (by kernel_rfl) (fun _ _ _ h => h) HF.out rfl ?_ rfl rfl ?_ ?_
            rotate_left
            · intro w' hF; clear hF; go_simp; try rfl
            rotate_left
            · simp only [Act.put]; exact rfl
            refine Calm.take (i := 6) (v := ?_) (a' := ?_) (l' := #[true, false, false, true, true, true, true, false, false, false, false]) (d := some 80) rfl (by kernel_rfl) (by kernel_rfl) (by kernel_rfl) (by kernel_rfl) (fun _ _ _ h => h) HF.out rfl ?_ rfl rfl ?_ ?_
            rotate_left
            · intro w' hF; clear hF; go_simp; try rfl
            rotate_left
            · simp only [Act.put]; exact rfl
            refine Calm.take (i := 7) (v := ?_) (a' := ?_) (l' := #[true, false, false, true, true, true, true, true, false, false, false]) (d := some 81) rfl (by kernel_rfl) (by kernel_rfl) (by kernel_rfl) (by kernel_rfl) (fun _ _ _ h => h) HF.out rfl ?_ rfl rfl ?_ ?_
            rotate_left
            · intro w' hF; clear hF; go_simp; try rfl
            rotate_left
            · simp only [Act.put]; exact rfl
            refine Calm.one (i := 1) (l' := #[true, true, false, true, true, true, true, true, false, false, false]) (by kernel_rfl) rfl rfl rfl fun K hK => ?_
            go_simp
            refine (rof_any 10 _ (by decide) (by decide)).mono ?_
            rintro e u1 ⟨v1, rfl, n1, hb⟩
            have HF' := hide (And.intro (HF.out.1.trans ((hb).mono HF.out.1.size)) (And.intro (HF.out.2.1.step (hb)) (HF.out.2.2.step (hb))))
            have T1 := hide (n1)
            refine hK _ _ (fun _ => HF'.out) ?_
            clear hK K HF hb n1
            have HF := hide HF'.out
            clear HF'
            refine Calm.one (i := 2) (l' := #[true, true, true, true, true, true, true, true, false, false, false]) (by kernel_rfl) rfl rfl rfl fun K hK => ?_
            go_simp
            refine (rmul2_any _ _ (nv d (2 - 1) : Int) 10 _ HF.out.2.2.int T1.out HLN.out.1 (by decide)).mono ?_
            rintro e u2 ⟨v2, rfl, n2, hb⟩
            clear T1
            have HF' := hide (And.intro (HF.out.1.trans ((hb).mono HF.out.1.size)) (And.intro (HF.out.2.1.step (hb)) (HF.out.2.2.step (hb))))
            have T2 := hide (n2)
            refine hK _ _ (fun _ => HF'.out) ?_
            clear hK K HF hb n2
            have HF := hide HF'.out
            clear HF'
            refine Calm.one (i := 8) (l' := #[true, true, true, true, true, true, true, true, true, false, false]) (by kernel_rfl) rfl rfl rfl fun K hK => ?_
            go_simp
            rw [dig_wrap64 x h9]
            refine (rof_any (x : Int) _ (by omega) (by omega)).mono ?_
            rintro e u3 ⟨v3, rfl, n3, hb⟩
            replace T2 := hide (T2.out.below (hb))
            have HF' := hide (And.intro (HF.out.1.trans ((hb).mono HF.out.1.size)) (And.intro (HF.out.2.1.step (hb)) (HF.out.2.2.step (hb))))
            have T3 := hide (n3)
            refine hK _ _ (fun _ => HF'.out) ?_
            clear hK K HF hb n3
            have HF := hide HF'.out
            clear HF'
            refine Calm.one (i := 9) (l' := #[true, true, true, true, true, true, true, true, true, true, false]) (by kernel_rfl) rfl rfl rfl fun K hK => ?_
            go_simp
            refine (radd2_any _ _ ((nv d (2 - 1) : Int) * 10) (x : Int) _ T2.out T3.out HLN.out.2 (dig_len x h9)).mono ?_
            rintro e u4 ⟨v4, rfl, n4, hb⟩
            obtain ⟨b4, k4, a4, c4, rfl, m4, e4, z4⟩ := n4
            have n4 : RInt u4 (.agg #[.bool b4, .slice a4 (D.lim k4).length c4]) (((nv d (2 - 1) : Int) * 10) + (x : Int)) := ⟨b4, k4, a4, c4, rfl, m4, e4, z4⟩
            clear T2
            clear T3
            have HF' := hide (And.intro (HF.out.1.trans ((hb).mono HF.out.1.size)) (And.intro (HF.out.2.1.step (hb)) (HF.out.2.2.step (hb))))
            have T4 := hide (n4)
            refine hK _ _ (fun _ => HF'.out) ?_
            clear hK K HF hb n4 m4 e4 z4
            have HF := hide HF'.out
            clear HF'
            refine Calm.one (i := 10) (l' := #[true, true, true, true, true, true, true, true, true, true, true]) (by kernel_rfl) rfl rfl rfl fun K hK => ?_
            have hc0 := HF.out.2.2.box.cell0
            have hc1 := HF.out.2.2.box.cell1
            have hf0 := HF.out.2.2.box.free 0
            have hf1 := HF.out.2.2.box.free 1
            go_simp
            refine hK _ _ (fun h => absurd h (by decide)) ?_
            clear hK K
            refine Calm.done (by kernel_rfl) ?_
            go_wp2
            go_roundw
            case rel => exact ⟨2 + 1, by omega, by omega, by go_num, by rw [show 2 + 1 - 1 = 2 - 1 + 1 by omega]; exact HG.out.succ HF0.out, below_put HF.out.1 (Nat.le_succ _) _ _, HF.out.2.1.other (by omega) _ _, b4, a4, _, c4, ⟨HF.out.2.2.box.put _ _, by rw [HX.out]; have := T4.out.keep (keeps2 HF.out.2.2.box (by simp) (by simp) (.bool b4) (.slice a4 (D.lim k4).length c4)); simpa using this⟩⟩
            case measure => simp [intOf]; omega
          · have h3' : ((i : Int) == 2) = false := by rw [beq_eq_false_iff_ne]; omega
            clear c3 hx h3
            go_wp2_with fail
            refine wp_calm (fun w' => Below w.heap.size w w' ∧ Box2 w' w.heap.size 30 (.bool false) (.slice none 0 0) ∧ RVar w' (w.heap.size + 1) sb m n c (nv d (i - 1) : Int)) (fun j => j != 10) 11 #[false, false, false, false, false, false, false, false, false, false, false] (by kernel_rfl) rfl rfl ?_
            have HF := hide (And.intro (HB.out.drew) (And.intro (HR.out.drew) (HV.out.drew)))
            generalize wr.drew = wrd at *
            refine Calm.take (i := 0) (v := ?_) (a' := ?_) (l' := #[true, false, false, false, false, false, false, false, false, false, false]) (d := some 74) rfl (by kernel_rfl) (by kernel_rfl) (by kernel_rfl) (by kernel_rfl) (fun _ _ _ h => h) HF.out rfl ?_ rfl rfl ?_ ?_
            rotate_left
            · intro w' hF; have f10 := hF.2.1.cell0; have f11 := hF.2.1.cell1; have f20 := hF.2.2.box.cell0; have f21 := hF.2.2.box.cell1; clear hF; go_simp; try rfl
            rotate_left
            · simp only [Act.put]; exact rfl
            refine Calm.take (i := 3) (v := ?_) (a' := ?_) (l' := #[true, false, false, true, false, false, false, false, false, false, false]) (d := some 77) rfl (by kernel_rfl) (by kernel_rfl) (by kernel_rfl) (by kernel_rfl) (fun _ _ _ h => h) HF.out rfl ?_ rfl rfl ?_ ?_
            rotate_left
            · intro w' hF; clear hF; go_simp; try rfl
            rotate_left
            · simp only [Act.put]; exact rfl
            refine Calm.take (i := 4) (v := ?_) (a' := ?_) (l' := #[true, false, false, true, true, false, false, false, false, false, false]) (d := some 78) rfl (by kernel_rfl) (by kernel_rfl) (by kernel_rfl) (by kernel_rfl) (fun _ _ _ h => h) HF.out rfl ?_ rfl rfl ?_ ?_
            rotate_left
            · intro w' hF; clear hF; go_simp; try rfl
            rotate_left
            · simp only [Act.put]; exact rfl
            refine Calm.take (i := 5) (v := ?_) (a' := ?_) (l' := #[true, false, false, true, true, true, false, false, false, false, false]) (d := some 79) rfl (by kernel_rfl) (by kernel_rfl) (by kernel_rfl) (by kernel_rfl) (fun _ _ _ h => h) HF.out rfl ?_ rfl rfl ?_ ?_
            rotate_left
            · intro w' hF; clear hF; go_simp; try rfl
            rotate_left
            · simp only [Act.put]; exact rfl
            refine Calm.take (i := 6) (v := ?_) (a' := ?_) (l' := #[true, false, false, true, true, true, true, false, false, false, false]) (d := some 80) rfl (by kernel_rfl) (by kernel_rfl) (by kernel_rfl) (by kernel_rfl) (fun _ _ _ h => h) HF.out rfl ?_ rfl rfl ?_ ?_
            rotate_left
            · intro w' hF; clear hF; go_simp; try rfl
            rotate_left
            · simp only [Act.put]; exact rfl
            refine Calm.take (i := 7) (v := ?_) (a' := ?_) (l' := #[true, false, false, true, true, true, true, true, false, false, false]) (d := some 81) rfl (by kernel_rfl) (by kernel_rfl) (by kernel_rfl) (by kernel_rfl) (fun _ _ _ h => h) HF.out rfl ?_ rfl rfl ?_ ?_
            rotate_left
            · intro w' hF; clear hF; go_simp; try rfl
            rotate_left
            · simp only [Act.put]; exact rfl
            refine Calm.one (i := 1) (l' := #[true, true, false, true, true, true, true, true, false, false, false]) (by kernel_rfl) rfl rfl rfl fun K hK => ?_
            go_simp
            refine (rof_any 10 _ (by decide) (by decide)).mono ?_
            rintro e u1 ⟨v1, rfl, n1, hb⟩
            have HF' := hide (And.intro (HF.out.1.trans ((hb).mono HF.out.1.size)) (And.intro (HF.out.2.1.step (hb)) (HF.out.2.2.step (hb))))
            have T1 := hide (n1)
            refine hK _ _ (fun _ => HF'.out) ?_
            clear hK K HF hb n1
            have HF := hide HF'.out
            clear HF'
            refine Calm.one (i := 2) (l' := #[true, true, true, true, true, true, true, true, false, false, false]) (by kernel_rfl) rfl rfl rfl fun K hK => ?_
            go_simp
            refine (rmul2_any _ _ (nv d (i - 1) : Int) 10 _ HF.out.2.2.int T1.out HLN.out.1 (by decide)).mono ?_
            rintro e u2 ⟨v2, rfl, n2, hb⟩
            clear T1
            have HF' := hide (And.intro (HF.out.1.trans ((hb).mono HF.out.1.size)) (And.intro (HF.out.2.1.step (hb)) (HF.out.2.2.step (hb))))
            have T2 := hide (n2)
            refine hK _ _ (fun _ => HF'.out) ?_
            clear hK K HF hb n2
            have HF := hide HF'.out
            clear HF'
            refine Calm.one (i := 8) (l' := #[true, true, true, true, true, true, true, true, true, false, false]) (by kernel_rfl) rfl rfl rfl fun K hK => ?_
            go_simp
            rw [dig_wrap64 x h9]
            refine (rof_any (x : Int) _ (by omega) (by omega)).mono ?_
            rintro e u3 ⟨v3, rfl, n3, hb⟩
            replace T2 := hide (T2.out.below (hb))
            have HF' := hide (And.intro (HF.out.1.trans ((hb).mono HF.out.1.size)) (And.intro (HF.out.2.1.step (hb)) (HF.out.2.2.step (hb))))
            have T3 := hide (n3)
            refine hK _ _ (fun _ => HF'.out) ?_
            clear hK K HF hb n3
            have HF := hide HF'.out
            clear HF'
            refine Calm.one (i := 9) (l' := #[true, true, true, true, true, true, true, true, true, true, false]) (by kernel_rfl) rfl rfl rfl fun K hK => ?_
            go_simp
            refine (radd2_any _ _ ((nv d (i - 1) : Int) * 10) (x : Int) _ T2.out T3.out HLN.out.2 (dig_len x h9)).mono ?_
            rintro e u4 ⟨v4, rfl, n4, hb⟩
            obtain ⟨b4, k4, a4, c4, rfl, m4, e4, z4⟩ := n4
            have n4 : RInt u4 (.agg #[.bool b4, .slice a4 (D.lim k4).length c4]) (((nv d (i - 1) : Int) * 10) + (x : Int)) := ⟨b4, k4, a4, c4, rfl, m4, e4, z4⟩
            clear T2
            clear T3
            have HF' := hide (And.intro (HF.out.1.trans ((hb).mono HF.out.1.size)) (And.intro (HF.out.2.1.step (hb)) (HF.out.2.2.step (hb))))
            have T4 := hide (n4)
            refine hK _ _ (fun _ => HF'.out) ?_
            clear hK K HF hb n4 m4 e4 z4
            have HF := hide HF'.out
            clear HF'
            refine Calm.one (i := 10) (l' := #[true, true, true, true, true, true, true, true, true, true, true]) (by kernel_rfl) rfl rfl rfl fun K hK => ?_
            have hc0 := HF.out.2.2.box.cell0
            have hc1 := HF.out.2.2.box.cell1
            have hf0 := HF.out.2.2.box.free 0
            have hf1 := HF.out.2.2.box.free 1
            go_simp
            refine hK _ _ (fun h => absurd h (by decide)) ?_
            clear hK K
            refine Calm.done (by kernel_rfl) ?_
            go_wp2
            go_roundw
            case rel => exact ⟨i + 1, by omega, by omega, by go_num, by rw [show i + 1 - 1 = i - 1 + 1 by omega]; exact HG.out.succ HF0.out, below_put HF.out.1 (Nat.le_succ _) _ _, HF.out.2.1.other (by omega) _ _, b4, a4, _, c4, ⟨HF.out.2.2.box.put _ _, by rw [HX.out]; have := T4.out.keep (keeps2 HF.out.2.2.box (by simp) (by simp) (.bool b4) (.slice a4 (D.lim k4).length c4)); simpa using this⟩⟩
            case measure => simp [intOf]; omega
        · have e : i = s.size := by omega
          subst e
          clear hi1 hi2 hlt
          have hv1 := HV.out.box.cell1
          have hv0 := HV.out.box.cell0
          obtain ⟨b4, k4, a4, c4, e3, m4, e4, z4⟩ := HV.out.int
          simp only [Value.agg.injEq, Array.mk.injEq, List.cons.injEq, Value.bool.injEq, Value.slice.injEq, and_true] at e3
          obtain ⟨rfl, rfl, rfl, rfl⟩ := e3
          have HK : Hid (k4 = nv d d.size) := hide (by have h1 := congrArg Int.natAbs e4; rw [sg_abs, Int.natAbs_natCast, show s.size - 1 = d.size by have := HDS.out; omega] at h1; exact h1.symm)
          have HM := hide m4
          clear m4 e4 z4
          go_wp2_with fail
          refine (rnorm2_any true _ (D.lim k4) _ HM.out (D.ok_lim k4)).mono ?_
          rintro e w2 ⟨v2, rfl, hr2, hb2⟩
          rw [D.val_lim, HK.out] at hr2
          obtain ⟨b5, k5, a5, c5, rfl, m5, e5, z5⟩ := hr2
          replace HR := hide (HR.out.step hb2)
          replace HB := hide (HB.out.trans (hb2.mono HB.out.size))
          have hc0 := HR.out.cell0
          have hc1 := HR.out.cell1
          have hf0 := HR.out.free 0
          have hf1 := HR.out.free 1
          clear hb2 hv0 hv1
          go_wp2
          refine ret_rat1 rfl w.heap.size _ _ rfl (HR.out.put _ _) rfl ?_
          exact ⟨_, _, -1, rfl, ⟨b5, k5, a5, c5, rfl, keeps2 HR.out (by simp) (by simp) _ _ _ _ m5, e5, z5⟩, .inr ⟨HRZ.out (show Good d d.size by have := HG.out; rwa [show s.size - 1 = d.size by have := HDS.out; omega] at this), rfl⟩, below_put HB.out (Nat.le_refl _) _ _⟩
end Go.Proofs.Ytbaicocncalfaaa
