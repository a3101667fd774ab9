/- The document's answers for layer 2 (swageref02): divide. -/
import Derived.Test.YtenmogmdijnlhaaDoorR2Div2
import Derived.Laws.BitsAllLaws
namespace Go.Proofs.YtenmogmdijnlhaaDoor
open Go.RowKit

theorem dcmp_ge {m n : Nat} (h : n ≤ m) : 0 ≤ cmpI m n := by unfold cmpI; rw [if_neg (by omega)]; split <;> omega
theorem dcmp_lt {m n : Nat} (h : ¬ n ≤ m) : cmpI m n < 0 := by unfold cmpI; rw [if_pos (by omega)]; omega
theorem dlen_mono {n m : Nat} (h : n ≤ m) : (D.lim n).length ≤ (D.lim m).length :=
  D.lim_length_le (Nat.lt_of_le_of_lt h (by have := D.val_lt (D.ok_lim m); rw [D.val_lim] at this; exact this))
theorem dlen_mono' {n m M : Nat} (h : n < m) (hM : M = (D.lim m).length) : (D.lim n).length ≤ M := by rw [hM]; exact dlen_mono (Nat.le_of_lt h)
theorem Own.lower3 {w : World} {base base' : Nat} {v : Value} {xs : List Nat} (h : Own w base v xs) (hb : base' ≤ base) : Own w base' v xs := by
  refine ⟨h.1, ?_⟩
  rcases h.2 with k | ⟨g, cap, cur, e, hg, r⟩
  · exact .inl k
  · exact .inr ⟨g, cap, cur, e, Nat.le_trans hb hg, r⟩
theorem Own.lt2 {w : World} {base : Nat} {v : Value} {xs : List Nat} (h : Own w base v xs) : ∀ k, v.ownBlock = some k → base ≤ k ∧ k < w.heap.size := World.ownsRow.lt h
theorem Own.rowc {w : World} {base l rc : Nat} {ra : Option Addr} {xs : List Nat} (h : Own w base (.slice ra l rc) xs) (hp : 0 < xs.length) : ∃ g, ra = some ⟨g, 0, none⟩ ∧ base ≤ g ∧ RowC w base g xs.length rc xs := by
  rcases h.2 with ⟨e, h0⟩ | ⟨g, cap, cur, e, hb, r⟩
  · omega
  · simp only [Value.slice.injEq] at e
    obtain ⟨rfl, rfl, rfl⟩ := e
    exact ⟨g, rfl, hb, h⟩
theorem Own.other {w : World} {base g o : Nat} {v u : Value} {xs : List Nat} (h : Own w base v xs) (hg : g < base) : Own (w.setCell ⟨g, o, none⟩ u) base v xs :=
  World.ownsRow.kept (row := some g) h ⟨rfl, rfl, rfl, by simp, fun k _ hk => by
    show (w.heap.modify g _)[k]? = _
    rw [Array.getElem?_modify]
    have : g ≠ k := fun e => hk (by rw [e])
    simp [this]⟩ (.inr (fun e => by have := (Own.lt2 h g e).1; omega))
theorem twice_pow (Q k : Nat) : Q * 2 ^ (k + 1) = 2 * Q * 2 ^ k := by rw [Nat.pow_succ, Nat.mul_comm (2 ^ k), ← Nat.mul_assoc, Nat.mul_comm Q]
theorem pow_emod (s : Nat) (h : s < 16) : ((2 ^ s : Nat) : Int) = (2 : Int) ^ s % 4294967296 := by
  have h1 : 2 ^ s < 2 ^ 16 := Nat.pow_lt_pow_right (by decide) h
  have h2 : ((2 ^ s : Nat) : Int) = (2 : Int) ^ s := by rw [Int.natCast_pow]; rfl
  rw [← h2]
  generalize 2 ^ s = p at h1
  omega
theorem RowC.lt2 {w : World} {base g n cap : Nat} {xs : List Nat} (h : RowC w base g n cap xs) : g < w.heap.size := (World.ownsRow.lt h g rfl).2

set_option maxRecDepth 100000 in
set_option maxHeartbeats 8000000 in
theorem rdiv2_any (v1 v2 : Value) (m n : Nat) (w : World) (h1 : Nums w v1 (D.lim m)) (h2 : Nums w v2 (D.lim n)) (hn : 0 < n) (hn1 : (D.lim n).length ≠ 1) (l1 : (D.lim m).length ≤ 10000000) (l2 : (D.lim n).length ≤ 10000000) :
    Calls Tryd.prog 51 #[v1, v2] w fun e w' => ∃ q r, e = .returned (.tuple #[q, r]) ∧ Nums w' q (D.lim (m / n)) ∧ Nums w' r (D.lim (m % n)) ∧ Below w.heap.size w w' := by
  obtain ⟨i0, hi, hz0, hz1, hz2⟩ := info_parts Tryd.info87
  have HN1 := hide h1
  have HN2 := hide h2
  have HNP := hide hn
  obtain ⟨_, a1, c1, rfl, hl1, hm1, _⟩ := h1
  obtain ⟨_, a2, c2, rfl, hl2, hm2, _⟩ := h2
  unfold maxLen at hm1 hm2
  have hne1 : ((((D.lim n).length : Nat) : Int) == 1) = false := by rw [beq_eq_false_iff_ne]; omega
  obtain ⟨L, hL⟩ : ∃ L, L = (D.lim m).length := ⟨_, rfl⟩
  obtain ⟨M, hM⟩ : ∃ M, M = (D.lim n).length := ⟨_, rfl⟩
  rw [← hL] at hl1 l1 HN1 ⊢
  rw [← hM] at hl2 l2 hne1 HN2 ⊢
  have HLE := hide hL
  have HME := hide hM
  clear hL hM hn hn1
  go_enter Tryd.func51, Tryd.ntmps51
  go_wp2_with (at_make; refine wpList_make_full _ rfl _ _ 54 rfl w.heap.size 87 i0 (.int .u32 0) 1 Tryd.underlying54 hi hz0 hz1 _ _ _ _ L rfl rfl ?_ ?_ ?_ ?_ (Nat.le_refl _) ?_)
  all_goals try (first | rfl | omega)
  all_goals try (rw [hz2]; omega)
  all_goals try (unfold maxLen; omega)
  intro w2 hown hgrow
  have HB2 : Hid (Below w.heap.size w w2) := hide ((Below.refl _ _).grown hgrow (Nat.le_refl _) (fun k hk => by simp at hk))
  have HR2 : Hid (RowC w2 w.heap.size w.heap.size L L (List.replicate L 0)) := hide (by rw [made_fil] at hown; unfold RowC; simpa [fil] using hown)
  clear hown hgrow hne1
  go_wp2_with fail
  refine (rbits2_any _ m _ (HN1.out.below HB2.out) (by have := HLE.out; omega)).mono ?_
  rintro e w3 ⟨N, rfl, hlen, hNb, rfl⟩
  rw [← HLE.out] at hNb
  have HLEN := hide hlen
  clear hlen
  go_wp2
  go_loopw [10, 11, 12, 13] (fun rv kv cv iv wr => ∃ (k : Nat) (qs : List Nat), k ≤ N ∧ kv = .int .i64 ((k : Int) - 1) ∧ qs.length = L ∧ D.Ok qs ∧ D.val qs = m / 2 ^ k / n * 2 ^ k ∧ RowC wr w.heap.size w.heap.size L L qs ∧ Own wr (w.heap.size + 1) rv (D.lim (m / 2 ^ k % n)) ∧ Below w.heap.size w wr) (fun _ kv _ _ _ => (intOf kv + 1).toNat)
  case atStart =>
    have e0 : m / 2 ^ N = 0 := Nat.div_eq_of_lt HLEN.out.1
    exact ⟨N, List.replicate L 0, Nat.le_refl _, rfl, List.length_replicate, fun x hx => by rw [List.eq_of_mem_replicate hx]; decide, by rw [e0, Nat.zero_div, Nat.zero_mul]; exact D.val_replicate _, HR2.out, by rw [e0, Nat.zero_mod, D.lim_zero]; exact World.ownsRow_nil _ _ _ _, HB2.out⟩
  case round =>
    clear HR2 HB2
    obtain ⟨k, qs, hkN, rfl, hql, hqo, hqv, hrow, hown, hbel⟩ := hrel
    have HQ := hide (And.intro hql (And.intro hqo hqv))
    have HRW := hide hrow
    have HOW := hide hown
    have HBE := hide hbel
    clear hql hqo hqv hrow hown hbel
    cases k with
    | zero =>
      have hfld := Tryd.fieldD
      go_wp2_with fail
      refine (rnorm2_any false _ qs _ (HRW.out.nums HQ.out.1 (dok HQ.out.2.1)) HQ.out.2.1).mono ?_
      rintro e w4 ⟨v4, rfl, hR4, hb4⟩
      rw [HQ.out.2.2, show m / 2 ^ 0 / n * 2 ^ 0 = m / n by simp] at hR4
      obtain ⟨l4, rfl, n4⟩ := hR4.digits
      have HN4 := hide n4
      have HR4 : Hid (Nums w4 u10 (D.lim (m % n))) := hide (by have := (HOW.out.nums (dok (D.ok_lim _))).below hb4; rwa [show m / 2 ^ 0 % n = m % n by simp] at this)
      replace HBE := hide (HBE.out.trans (hb4.mono HBE.out.size))
      clear hb4 hR4 n4
      go_wp2
      go_ret2
      exact ⟨_, _, rfl, HN4.out, HR4.out, HBE.out⟩
    | succ k =>
      rw [show (((k + 1 : Nat) : Int) - 1) = (k : Int) from by omega]
      have hkL : k / 16 < L := by omega
      have HYN := hide (bit_yes (m := m) (k := k) HNP.out rfl)
      obtain ⟨c0, hc0⟩ : ∃ c0, c0 = m / 2 ^ k % 2 := ⟨_, rfl⟩
      have hc01 : c0 ≤ 1 := by omega
      obtain ⟨R, hR⟩ : ∃ R, R = m / 2 ^ (k + 1) % n := ⟨_, rfl⟩
      rw [← hc0, ← hR] at HYN
      rw [← hR] at HOW
      have HRn : Hid (R < n) := hide (by rw [hR]; exact Nat.mod_lt _ HNP.out)
      have HC0 := hide hc0
      clear hc0 hR
      obtain ⟨R1, hR1⟩ : ∃ R1, R1 = 2 * R + c0 := ⟨_, rfl⟩
      rw [← hR1] at HYN
      have HR1 := hide hR1
      have HRL : Hid ((D.lim R1).length ≤ M + 1) := hide (by
        refine D.lim_length_le ?_
        have h1 : n < D.BB ^ M := by have := D.val_lt (D.ok_lim n); rw [D.val_lim, ← HME.out] at this; exact this
        rw [Nat.pow_succ]
        have h2 : D.BB ^ M * 2 ≤ D.BB ^ M * D.BB := Nat.mul_le_mul_left _ (by decide)
        have := HRn.out
        omega)
      clear hR1
      obtain ⟨_, ra, rc, hrv, hrc, hrm, _⟩ := HOW.out.nums (dok (D.ok_lim _))
      subst hrv
      unfold maxLen at hrm
      have HRL0 : Hid ((D.lim R).length ≤ M) := hide (dlen_mono' HRn.out HME.out)
      have hRb : (D.lim R).length ≤ 10000000 := by have := HRL0.out; omega
      go_wp2_with fail
      refine (rbit2_any _ m k _ (HN1.out.below HBE.out) (by rw [← HLE.out]; exact hkL) (by rw [← HLE.out]; omega)).mono ?_
      rintro e w5 ⟨rfl, hw5⟩
      rw [← HC0.out]
      subst hw5
      obtain ⟨RL, hRL⟩ : ∃ RL, RL = D.lim R := ⟨_, rfl⟩
      have HRLE := hide hRL
      rw [← hRL] at HOW hrc hRb ⊢
      clear hRL
      have HROK : Hid (D.Ok RL) := hide (by rw [HRLE.out]; exact D.ok_lim _)
      go_wp2
      go_loopw [12, 13] (fun cv iv wx => ∃ (i c : Nat) (A : List Nat), i ≤ RL.length ∧ iv = .int .i64 i ∧ cv = .int .u32 c ∧ c ≤ 1 ∧ DDbl RL c0 i c A ∧ Own wx (w.heap.size + 1) (.slice ra RL.length rc) (A ++ RL.drop i) ∧ RowC wx w.heap.size w.heap.size L L qs ∧ Below w.heap.size w wx) (fun _ iv _ => RL.length - (intOf iv).toNat)
      case atStart => exact ⟨0, c0, [], Nat.zero_le _, rfl, rfl, hc01, DDbl.zero _ _ hc01, by simpa using HOW.out, HRW.out, HBE.out⟩
      case round =>
        clear HOW HRW HBE
        obtain ⟨i, c, A, hiR, rfl, rfl, hc1, hat, hown, hrow, hbel⟩ := hrel
        have HAT := hide hat
        have HOW := hide hown
        have HRW := hide hrow
        have HBE := hide hbel
        have HAL := hide hat.len
        clear hat hown hrow hbel
        by_cases hlt : i < RL.length
        · obtain ⟨g, rfl, hbg, hrr⟩ := Own.rowc HOW.out (by rw [List.length_append, List.length_drop, HAL.out]; omega)
          have hall : (A ++ RL.drop i).length = RL.length := by rw [List.length_append, List.length_drop, HAL.out]; omega
          rw [hall] at hrr
          have hcl := hrr.cell hall i hlt
          rw [dbl_at A RL i HAL.out] at hcl
          have hfr := hrr.free i
          have hdx := dlm_lt HROK.out i
          have HRR := hide hrr
          have HBG := hide hbg
          clear hrr hbg hall
          have hcI : (c : Int) ≤ 1 := by omega
          go_wp2
          go_roundw
          case rel =>
            have hs := HRR.out.set i ((c + 2 * lm RL i) % 65536)
            rw [dbl_set A RL i _ HAL.out hlt] at hs
            have e1 : (((c + 2 * lm RL i) % 65536 : Nat) : Int) = ((c : Int) + 2 * (lm RL i : Int)) % 65536 := by omega
            have e2 : (((c + 2 * lm RL i) / 65536 : Nat) : Int) = ((c : Int) + 2 * (lm RL i : Int)) / 65536 := by omega
            rw [e1] at hs
            have st := HAT.out.step HROK.out
            refine ⟨i + 1, (c + 2 * lm RL i) / 65536, _, by omega, by go_num, by rw [e2], st.c1, st, ?_, HRW.out.other (by have := HBG.out; omega), HBE.out.setCell (p := ⟨g, i, none⟩) (by have := HBG.out; show _ ≤ g; omega) _⟩
            unfold Own
            rw [show (A ++ [(c + 2 * lm RL i) % 65536] ++ RL.drop (i + 1)).length = RL.length by simp [HAL.out]; omega]
            exact hs
          case measure => simp [intOf]; omega
        · have e : i = RL.length := by omega
          subst e
          have HEND := hide (DDbl.end (by have := HAT.out; rw [HRLE.out] at this; exact this))
          rw [← HR1.out] at HEND
          have HOA : Hid (Own wr (w.heap.size + 1) (.slice ra RL.length rc) A) := hide (by have := HOW.out; rw [List.drop_length, List.append_nil] at this; exact this)
          have HRW7 : Hid (w.heap.size < wr.heap.size) := hide HRW.out.lt2
          clear HAT HOW
          by_cases hc0' : c = 0
          · subst hc0'
            have HO1 : Hid (Own wr (w.heap.size + 1) (.slice ra RL.length rc) (D.lim R1)) := hide (by rw [← HEND.out.1 rfl]; exact HOA.out)
            clear HOA HEND
            go_wp2_with fail
            refine (rsize_any _ _ R1 n _ (HO1.out.nums (dok (D.ok_lim _))) (HN2.out.below HBE.out)).mono ?_
            rintro e w7 ⟨rfl, hb7⟩
            replace HO1 := hide (HO1.out.below hb7)
            replace HRW := hide (HRW.out.elder hb7)
            replace HBE := hide (HBE.out.trans (hb7.mono HBE.out.size))
            clear hb7 HRW7
            have HRW7 := hide HRW.out.lt2
            by_cases hge : n ≤ R1
            · have hcm : 0 ≤ cmpI R1 n := dcmp_ge hge
              generalize cmpI R1 n = cz at *
              have HGE := hide hge
              clear hge
              go_wp2_with fail
              refine (rminus_own _ _ (D.lim R1) (D.lim n) _ (HO1.out.nums (dok (D.ok_lim _))) (HN2.out.below HBE.out) (D.ok_lim _) (D.ok_lim _) (by have := HRL.out; omega) (dlen_mono HGE.out) (by rw [D.val_lim, D.val_lim]; exact HGE.out)).mono ?_
              rintro e w8 ⟨v8, acc, rfl, hO8, hk8, hv8, hb8⟩
              rw [D.val_lim, D.val_lim] at hv8
              replace HRW := hide (HRW.out.elder hb8)
              have HO8 := hide hO8
              skip
              replace HBE := hide (HBE.out.trans (hb8.mono HBE.out.size))
              have HV8 := hide hv8
              have HK8 := hide hk8
              clear hO8 hb8 hv8 hk8 HO1
              have hfld := Tryd.fieldD
              go_wp2_with fail
              refine (rnorm2_cut false v8 acc _ (HO8.out.nums (dok HK8.out)) HK8.out).mono ?_
              rintro e w9 ⟨b9, l9, k9, rfl, hcut, hk9, ht9, hR9, hb9⟩
              have HO9 : Hid (Own w9 (w.heap.size + 1) l9 (D.lim (R1 - n))) := hide (by have h := HO8.out.norm hcut hk9 ht9 hb9; rw [HV8.out] at h; exact Own.lower3 h (by have := HRW7.out; omega))
              replace HRW := hide (HRW.out.elder hb9)
              replace HBE := hide (HBE.out.trans (hb9.mono HBE.out.size))
              clear hcut hk9 ht9 hR9 hb9 HO8 HV8 HK8
              have hcl := HRW.out.cell HQ.out.1 (k / 16) (by omega)
              have hfr := HRW.out.free (k / 16)
              have hdq := dlm_lt HQ.out.2.1 (k / 16)
              have HOR := hide (or_bit HQ.out.2.1 HQ.out.2.2 (by rw [HQ.out.1]; omega))
              have HORI := hide (u32_or_nat (lm qs (k / 16)) (2 ^ (k % 16)) (by omega) (Nat.lt_of_lt_of_le (Nat.pow_lt_pow_right (by decide) (Nat.mod_lt _ (by decide))) (show 2 ^ 16 ≤ 4294967296 by decide)))
              rw [pow_emod (k % 16) (Nat.mod_lt _ (by decide))] at HORI
              have hk16 : (k : Int) / 16 < (L : Int) := by omega
              go_wp2
              go_region
              all_goals
                go_wp2
                go_roundw
                case rel =>
                  have hy := (HYN.out.1 HGE.out)
                  refine ⟨k, qs.set (k / 16) (lm qs (k / 16) ||| 2 ^ (k % 16)), by omega, by go_num, by rw [List.length_set]; exact HQ.out.1, HQ.out.2.1.set _ _ HOR.out.1, by rw [HOR.out.2, hy.1], ?_, by rw [hy.2]; exact Own.other HO9.out (Nat.lt_succ_self _), ?_⟩
                  · have h1 := HRW.out.set (k / 16) (lm qs (k / 16) ||| 2 ^ (k % 16))
                    rw [← HORI.out] at h1
                    exact h1
                  · exact (HBE.out.setCell (p := ⟨w.heap.size, k / 16, none⟩) (Nat.le_refl _) _).drew
                case measure => simp [intOf]
            · have hcm : cmpI R1 n < 0 := dcmp_lt hge
              have HLT := hide (Nat.lt_of_not_le hge)
              generalize cmpI R1 n = cz at *
              clear hge
              go_wp2
              go_roundw
              case rel =>
                have hy := (HYN.out.2 HLT.out)
                exact ⟨k, qs, by omega, by go_num, HQ.out.1, HQ.out.2.1, by rw [HQ.out.2.2, hy.1, twice_pow], HRW.out, by rw [hy.2]; exact HO1.out, HBE.out⟩
              case measure => simp [intOf]
          · have hc1' : c = 1 := by omega
            subst hc1'
            have hAl : A.length = RL.length := HAL.out
            have hbs : w.heap.size + 1 ≤ wr.heap.size := HRW7.out
            go_wp2_with (at_builtin; refine wpList_append_own _ rfl _ _ 54 rfl (w.heap.size + 1) 87 i0 (.int .u32 0) 1 4 Tryd.underlying54 hi hz0 hz1 hz2 rfl (by decide) _ _ _ rfl (World.ownsRow.alloc HOA.out _) ⟨_, 0, none⟩ 1 1 [.int .u32 (1)] rfl rfl ?_ ?_ ?_ ?_ ?_ ?_)
            · intro i u hi'
              match i, hi' with
              | 0, hi' => simp at hi'; subst hi'; simp [Addr.add]
            · intro u hu; simp at hu; subst hu; rfl
            · unfold maxLen; omega
            · omega
            · simp; omega
            · intro v6 w6 hown6 hgrow6 _
              have hneT : (Value.slice ra RL.length rc).ownBlock ≠ some w.heap.size := fun h => by have := HOA.out.lt _ h; omega
              have HRW6 := hide (RowC.kept (show RowC (wr.alloc _) _ _ _ _ _ from World.ownsRow.alloc HRW.out _) hgrow6 hneT)
              obtain ⟨hO6, hB6⟩ := own_step (n := 1) rfl HOA.out (by rw [hAl]; simpa using hown6) hgrow6 HBE.out (by omega) (Nat.le_succ _)
              have HO1 : Hid (Own w6 (w.heap.size + 1) v6 (D.lim R1)) := hide (by rw [← HEND.out.2 (by decide)]; exact hO6)
              have HS6 : Hid (w.heap.size < w6.heap.size) := hide HRW6.out.lt2
              clear HRW HRW7
              have HRW := hide HRW6.out
              have HRW7 := hide HS6.out
              replace HBE := hide hB6
              clear hown6 hgrow6 hO6 hB6 HOA HEND HRW6 HS6 hneT hbs hAl
              obtain ⟨_, r6, q6, hv6, _, hm6, _⟩ := HO1.out.nums (dok (D.ok_lim _))
              subst hv6
              clear hm6
              go_wp2_with fail
              refine (rsize_any _ _ R1 n _ (HO1.out.nums (dok (D.ok_lim _))) (HN2.out.below HBE.out)).mono ?_
              rintro e w7 ⟨rfl, hb7⟩
              replace HO1 := hide (HO1.out.below hb7)
              replace HRW := hide (HRW.out.elder hb7)
              replace HBE := hide (HBE.out.trans (hb7.mono HBE.out.size))
              clear hb7 HRW7
              have HRW7 := hide HRW.out.lt2
              by_cases hge : n ≤ R1
              · have hcm : 0 ≤ cmpI R1 n := dcmp_ge hge
                generalize cmpI R1 n = cz at *
                have HGE := hide hge
                clear hge
                go_wp2_with fail
                refine (rminus_own _ _ (D.lim R1) (D.lim n) _ (HO1.out.nums (dok (D.ok_lim _))) (HN2.out.below HBE.out) (D.ok_lim _) (D.ok_lim _) (by have := HRL.out; omega) (dlen_mono HGE.out) (by rw [D.val_lim, D.val_lim]; exact HGE.out)).mono ?_
                rintro e w8 ⟨v8, acc, rfl, hO8, hk8, hv8, hb8⟩
                rw [D.val_lim, D.val_lim] at hv8
                replace HRW := hide (HRW.out.elder hb8)
                have HO8 := hide hO8
                skip
                replace HBE := hide (HBE.out.trans (hb8.mono HBE.out.size))
                have HV8 := hide hv8
                have HK8 := hide hk8
                clear hO8 hb8 hv8 hk8 HO1
                have hfld := Tryd.fieldD
                go_wp2_with fail
                refine (rnorm2_cut false v8 acc _ (HO8.out.nums (dok HK8.out)) HK8.out).mono ?_
                rintro e w9 ⟨b9, l9, k9, rfl, hcut, hk9, ht9, hR9, hb9⟩
                have HO9 : Hid (Own w9 (w.heap.size + 1) l9 (D.lim (R1 - n))) := hide (by have h := HO8.out.norm hcut hk9 ht9 hb9; rw [HV8.out] at h; exact Own.lower3 h (by have := HRW7.out; omega))
                replace HRW := hide (HRW.out.elder hb9)
                replace HBE := hide (HBE.out.trans (hb9.mono HBE.out.size))
                clear hcut hk9 ht9 hR9 hb9 HO8 HV8 HK8
                have hcl := HRW.out.cell HQ.out.1 (k / 16) (by omega)
                have hfr := HRW.out.free (k / 16)
                have hdq := dlm_lt HQ.out.2.1 (k / 16)
                have HOR := hide (or_bit HQ.out.2.1 HQ.out.2.2 (by rw [HQ.out.1]; omega))
                have HORI := hide (u32_or_nat (lm qs (k / 16)) (2 ^ (k % 16)) (by omega) (Nat.lt_of_lt_of_le (Nat.pow_lt_pow_right (by decide) (Nat.mod_lt _ (by decide))) (show 2 ^ 16 ≤ 4294967296 by decide)))
                rw [pow_emod (k % 16) (Nat.mod_lt _ (by decide))] at HORI
                have hk16 : (k : Int) / 16 < (L : Int) := by omega
                go_wp2
                go_region
                all_goals
                  go_wp2
                  go_roundw
                  case rel =>
                    have hy := (HYN.out.1 HGE.out)
                    refine ⟨k, qs.set (k / 16) (lm qs (k / 16) ||| 2 ^ (k % 16)), by omega, by go_num, by rw [List.length_set]; exact HQ.out.1, HQ.out.2.1.set _ _ HOR.out.1, by rw [HOR.out.2, hy.1], ?_, by rw [hy.2]; exact Own.other HO9.out (Nat.lt_succ_self _), ?_⟩
                    · have h1 := HRW.out.set (k / 16) (lm qs (k / 16) ||| 2 ^ (k % 16))
                      rw [← HORI.out] at h1
                      exact h1
                    · exact (HBE.out.setCell (p := ⟨w.heap.size, k / 16, none⟩) (Nat.le_refl _) _).drew
                  case measure => simp [intOf]
              · have hcm : cmpI R1 n < 0 := dcmp_lt hge
                have HLT := hide (Nat.lt_of_not_le hge)
                generalize cmpI R1 n = cz at *
                clear hge
                go_wp2
                go_roundw
                case rel =>
                  have hy := (HYN.out.2 HLT.out)
                  exact ⟨k, qs, by omega, by go_num, HQ.out.1, HQ.out.2.1, by rw [HQ.out.2.2, hy.1, twice_pow], HRW.out, by rw [hy.2]; exact HO1.out, HBE.out⟩
                case measure => simp [intOf]

theorem dlim_one {n : Nat} (h : (D.lim n).length = 1) : D.lim n = [n] ∧ n < 65536 ∧ 0 < n := by
  obtain ⟨x, hx⟩ := List.length_eq_one_iff.1 h
  have hv := D.val_lim n
  rw [hx] at hv
  have hv' : x = n := by simpa [D.val] using hv
  subst hv'
  have hk := D.ok_lim x
  rw [hx] at hk
  have hl := dlim_last (n := x) (by omega)
  rw [h, hx] at hl
  exact ⟨hx, hk x (by simp), Nat.pos_of_ne_zero (by simpa [lm] using hl)⟩
theorem rdivide_any (v1 v2 : Value) (m n : Nat) (w : World) (h1 : Nums w v1 (D.lim m)) (h2 : Nums w v2 (D.lim n)) (hn : 0 < n) (l1 : (D.lim m).length ≤ 10000000) (l2 : (D.lim n).length ≤ 10000000) :
    Calls Tryd.prog 51 #[v1, v2] w fun e w' => ∃ q r, e = .returned (.tuple #[q, r]) ∧ Nums w' q (D.lim (m / n)) ∧ Nums w' r (D.lim (m % n)) ∧ Below w.heap.size w w' := by
  by_cases h : (D.lim n).length = 1
  · obtain ⟨e, hlt, hp⟩ := dlim_one h
    rw [e] at h2
    exact (rdiv1_any v1 v2 m n w h1 h2 hp hlt (by omega)).mono fun _ _ ⟨q, r, he, hq, hr, hb⟩ => ⟨q, r, he, hq.nums (dok (D.ok_lim _)), hr, hb⟩
  · exact rdiv2_any v1 v2 m n w h1 h2 hn h l1 l2
end Go.Proofs.YtenmogmdijnlhaaDoor
