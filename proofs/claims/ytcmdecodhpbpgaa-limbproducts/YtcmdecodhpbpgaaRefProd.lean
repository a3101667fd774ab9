/- The document's answers for layer 1 (swageref01): Mul. -/
import Derived.Test.YtcmdecodhpbpgaaRefMul
import Derived.Laws.AppendOwnNone
namespace Go.Proofs.Ytcmdecodhpbpgaa
open Go.RowKit

theorem prod_step (xs ys : List Nat) (k : Nat) (hk : k < ys.length) (L : List Nat) (hL : val L = val xs * val (ys.drop (k + 1))) : val (0 :: L) + val xs * lm ys k = val xs * val (ys.drop k) := by
  rw [drop_val ys k hk]
  simp only [val]
  rw [hL, Nat.mul_add, Nat.zero_add, Nat.mul_left_comm]
  omega

set_option maxHeartbeats 1000000 in
theorem rmul_any (v1 v2 : Value) (xs ys : List Nat) (w : World) (h1 : Nums w v1 xs) (h2 : Nums w v2 ys) (b1 : xs.length ≤ 10000000) (b2 : ys.length ≤ 10000000) :
    Calls Try.prog 21 #[v1, v2] w fun e w' => ∃ v', e = .returned v' ∧ Own w' w.heap.size v' (lim (val xs * val ys)) ∧ Below w.heap.size w w' := by
  obtain ⟨i0, hi, hz0, hz1, hz2⟩ := info_parts Try.info31
  have HN1 := hide h1
  have HN2 := hide h2
  have HO1 := hide h1.ok
  have HO2 := hide h2.ok
  obtain ⟨_, a1, c1, rfl, hl1, hm1, _⟩ := h1
  obtain ⟨_, a2, c2, rfl, hl2, hm2, hc2⟩ := h2
  have HC2 := hide hc2
  clear hc2
  unfold maxLen at hm1 hm2
  go_enter Try.func21, Try.ntmps21
  go_wp2
  go_loopw [5, 6] (fun ov iv wr => ∃ k : Nat, k ≤ ys.length ∧ iv = .int .i64 ((k : Int) - 1) ∧ Own wr w.heap.size ov (lim (val xs * val (ys.drop k))) ∧ Below w.heap.size w wr) (fun _ iv _ => (intOf iv + 1).toNat)
  case atStart => exact ⟨ys.length, Nat.le_refl _, by go_num, by rw [List.drop_length]; simp only [val, Nat.mul_zero, lim_zero]; exact World.ownsRow_nil _ _ _ _, Below.refl _ _⟩
  case round =>
    obtain ⟨k, hk, rfl, hO, hB⟩ := hrel
    cases k with
    | zero =>
      go_wp2
      go_ret
      exact ⟨_, rfl, by simpa using hO, hB⟩
    | succ k =>
      rw [show (((k + 1 : Nat) : Int) - 1) = (k : Int) from by omega]
      obtain ⟨b, off, rfl, hy⟩ := HC2.out (ne_nil (k := k) (by omega))
      have HYC := hide (hy k (by omega))
      have HYB : Hid (b < w.heap.size) := World.block_lt_of_cell? w _ (hy k (by omega))
      have hyb := HO2.out.at k
      unfold BB at hyb
      have hsz := hB.size
      have hlim : (lim (val xs * val (ys.drop (k + 1)))).length ≤ 20000000 := by
        have z1 : Sz 10000000 (val xs) := Sz.of HO1.out b1
        have z2 : Sz 10000000 (val (ys.drop (k + 1))) := Sz.of (HO2.out.drop _) (by rw [List.length_drop]; omega)
        exact (z1.mul z2).len
      have hlm : (lim (val xs * lm ys k)).length ≤ 10000001 := by
        have z1 : Sz 10000000 (val xs) := Sz.of HO1.out b1
        have z2 : Sz 1 (lm ys k) := by unfold Sz; simpa using HO2.out.at k
        exact (z1.mul z2).len
      have HPS := hide (prod_step xs ys k (by omega) (lim (val xs * val (ys.drop (k + 1)))) (val_lim _))
      have HO := hide hO
      have HB := hide hB
      have HNO := hide (hO.nums (ok_lim _))
      have HOKL := hide (ok_lim (val xs * val (ys.drop (k + 1))))
      clear hy hB
      generalize lim (val xs * val (ys.drop (k + 1))) = L at *
      have rest : ∀ (W : World) (v6 : Value), Own W w.heap.size v6 (0 :: L) → Below w.heap.size w W → Hid (Nums W v6 (0 :: L)) ∧ Hid (Below w.heap.size w W) ∧ W.cell? ⟨b, off + k, none⟩ = some (.int .u32 (lm ys k : Nat)) ∧ w.heap.size ≤ W.heap.size := by
        intro W v6 hO6 hB6
        exact ⟨hO6.nums (Ok.cons BB_pos HOKL.out), hB6, (hB6.cell (p := ⟨b, off + k, none⟩) HYB.out).trans HYC.out, hB6.size⟩
      have REST := hide rest
      clear rest
      rcases hO.2 with ⟨rfl, h0⟩ | ⟨g, cap, cur, rfl, hbg, hgg, hnc, hcm, _, _⟩
      · have hL : L = [] := List.eq_nil_of_length_eq_zero h0
        subst hL
        have HLIT := hide (lit_own wr w.heap.size 0 0 rfl hsz)
        have hyw : wr.cell? ⟨b, off + k, none⟩ = some (.int .u32 (lm ys k : Nat)) := (HB.out.cell (p := ⟨b, off + k, none⟩) HYB.out).trans HYC.out
        have hbw : b < wr.heap.size := Nat.lt_of_lt_of_le HYB.out hsz
        have hyw2 : (wr.alloc (.cells #[.int .u32 0] 31)).cell? ⟨b, off + k, none⟩ = some (.int .u32 (lm ys k : Nat)) := ((below_alloc wr _).cell (p := ⟨b, off + k, none⟩) hbw).trans hyw
        clear hO
        go_wp2_with (at_builtin; refine wpList_append_own_none rfl _ _ 22 rfl w.heap.size 31 i0 1 Try.underlying22 hi _ _ _ rfl HLIT.out rfl ?_)
        have hO6 := HLIT.out
        have hB6 := HB.out.alloc hsz (.cells #[.int .u32 0] 31)
        obtain ⟨HN6, HB6, hyc, hs6⟩ := REST.out _ _ hO6 hB6
        clear hO6 hB6
        go_wp2_with fail
        refine (rmulSmall_any _ xs (lm ys k) _ (HN1.out.below HB6.out) hyb (by omega)).mono ?_
        rintro e w7 ⟨v7, rfl, hO7, hb7⟩
        have HN7 := hide (hO7.nums (ok_lim _))
        have HN67 := hide (HN6.out.below hb7)
        have HB7 := hide (HB6.out.trans (hb7.mono hs6))
        have hs7 := hb7.size
        clear hO7 hb7 hyc
        go_wp2_with fail
        refine (radd_any _ _ (0 :: []) (lim (val xs * lm ys k)) _ HN67.out HN7.out (by rw [List.length_cons]; first | omega | (simp; done)) (by omega)).mono ?_
        rintro e w8 ⟨v8, rfl, hO8, hb8⟩
        rw [val_lim, HPS.out] at hO8
        have HO8 := hide (hO8.mono (Nat.le_trans hs6 hs7))
        have HB8 := hide (HB7.out.trans (hb8.mono (Nat.le_trans hs6 hs7)))
        clear hO8 hb8
        go_wp2
        go_roundw
        case rel => exact ⟨k, by omega, by go_num, HO8.out, HB8.out⟩
        case measure => simp [intOf]
      · have HLIT := hide (lit_own wr w.heap.size 0 0 rfl hsz)
        have hnw := (HNO.out.below (below_alloc wr (.cells #[.int .u32 0] 31))).news
        clear hO hgg
        go_wp2_with (at_builtin; refine wpList_append_own _ rfl _ _ 22 rfl w.heap.size 31 i0 (.int .u32 0) 1 4 Try.underlying22 hi hz0 hz1 hz2 rfl (by decide) _ _ _ rfl HLIT.out ⟨g, 0, none⟩ _ _ (ints L) rfl hnw.1 hnw.2 (ints_one _) ?_ ?_ ?_ ?_)
        · unfold maxLen; simp; omega
        · simp; omega
        · simp; omega
        intro v6 w6 hown6 hgrow6 _
        have hO6 : Own w6 w.heap.size v6 (0 :: L) := by
          have e1 : ints [0] ++ ints L = ints (0 :: L) := by simp [ints]
          rw [e1] at hown6
          show World.ownsRow _ _ _ _ _ _ _
          rw [show (0 :: L).length = [0].length + L.length from by simp; omega]
          exact hown6
        have hB6 := (HB.out.alloc hsz (.cells #[.int .u32 0] 31)).grown hgrow6 (by simp; omega) (fun k hk => (HLIT.out.lt k hk).1)
        clear hown6 hgrow6 hnw
        obtain ⟨HN6, HB6, hyc, hs6⟩ := REST.out _ _ hO6 hB6
        clear hO6 hB6
        go_wp2_with fail
        refine (rmulSmall_any _ xs (lm ys k) _ (HN1.out.below HB6.out) hyb (by omega)).mono ?_
        rintro e w7 ⟨v7, rfl, hO7, hb7⟩
        have HN7 := hide (hO7.nums (ok_lim _))
        have HN67 := hide (HN6.out.below hb7)
        have HB7 := hide (HB6.out.trans (hb7.mono hs6))
        have hs7 := hb7.size
        clear hO7 hb7 hyc
        go_wp2_with fail
        refine (radd_any _ _ (0 :: L) (lim (val xs * lm ys k)) _ HN67.out HN7.out (by rw [List.length_cons]; first | omega | (simp; done)) (by omega)).mono ?_
        rintro e w8 ⟨v8, rfl, hO8, hb8⟩
        rw [val_lim, HPS.out] at hO8
        have HO8 := hide (hO8.mono (Nat.le_trans hs6 hs7))
        have HB8 := hide (HB7.out.trans (hb8.mono (Nat.le_trans hs6 hs7)))
        clear hO8 hb8
        go_wp2
        go_roundw
        case rel => exact ⟨k, by omega, by go_num, HO8.out, HB8.out⟩
        case measure => simp [intOf]
end Go.Proofs.Ytcmdecodhpbpgaa
