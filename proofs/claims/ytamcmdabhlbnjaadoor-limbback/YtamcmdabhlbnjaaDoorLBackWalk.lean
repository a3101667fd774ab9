/- swagelaw01.LimbBack answers true at all lists of limbs, all texts, all numbers of bits, and turns nothing that was there. -/
import Derived.Test.YtamcmdabhlbnjaaDoorLShift
import Derived.Test.YtamcmdabhlbnjaaDoorTxL
import Derived.Test.YtamcmdabhlbnjaaDoorWorks
import Derived.Test.YtamcmdabhlbnjaaDoorEqual
import Derived.Test.YtamcmdabhlbnjaaDoorBox
import Derived.Deep.Cut
namespace Go.Proofs.YtamcmdabhlbnjaaDoor
open Go.RowKit

theorem rd_good {s : ByteArray} {ys : List Nat} {a b : Nat} (h : Rd s ys a b) (h0 : 0 < s.size) (h1 : s.size ≤ 65536) (hg : Good s s.size) : ys = lim (nv s s.size) ∧ a = 0 ∧ b = 0 := by
  rcases h with ⟨h2, _⟩ | ⟨h2, _⟩ | ⟨_, i, hi, _, hbad, _⟩ | ⟨_, _, _, h3⟩
  · omega
  · omega
  · exact absurd (hg i hi) hbad
  · exact h3
theorem rd_told {s : ByteArray} {ys : List Nat} {b : Nat} (h : Rd s ys 0 b) : b = 0 ∧ txt (val ys) = s ∧ ∃ m, ys = lim m := by
  rcases h with ⟨_, _, h2, _⟩ | ⟨_, _, h2, _⟩ | ⟨_, i, _, _, _, _, h2, _⟩ | ⟨_, h0, hg, rfl, _, rfl⟩
  · omega
  · omega
  · omega
  · exact ⟨rfl, by rw [val_lim]; exact good_txt s h0 hg, _, rfl⟩
theorem rd_few {s : ByteArray} {ys : List Nat} {a b : Nat} (h : Rd s ys a b) : ys.length ≤ 65536 := by
  rcases h with ⟨_, rfl, _⟩ | ⟨_, rfl, _⟩ | ⟨_, i, _, _, _, rfl, _⟩ | ⟨h1, _, hg, rfl, _, _⟩
  · simp
  · simp
  · simp
  · exact Nat.le_trans (nv_len s s.size _ hg (Nat.le_refl _)) h1
theorem rd_nat {s : ByteArray} {ys : List Nat} {a b : Nat} (h : Rd s ys a b) : a ≤ 6 ∧ b ≤ 65536 := by
  rcases h with ⟨_, _, rfl, rfl⟩ | ⟨_, _, rfl, rfl⟩ | ⟨_, i, _, _, _, _, rfl, rfl⟩ | ⟨_, _, _, _, rfl, rfl⟩ <;> omega

theorem Nums.off2 {w : World} {v : Value} {xs : List Nat} {g : Nat} {t : TypeId} {x y : Int} (h : Nums w v xs) (hB : Box2 w g t (.int .i64 x) (.int .i64 y)) {a b : Nat} :
    Nums ((w.setCell ⟨g, 0, none⟩ (.int .i64 (a : Nat))).setCell ⟨g, 1, none⟩ (.int .i64 (b : Nat))) v xs := by
  obtain ⟨ho, ad, c, rfl, hl, hm, hc⟩ := h
  refine ⟨ho, ad, c, rfl, hl, hm, fun hne => ?_⟩
  obtain ⟨b', off, e, hx⟩ := hc hne
  refine ⟨b', off, e, fun i hi => ?_⟩
  have h1 := hx i hi
  have n0 : (⟨b', off + i, none⟩ : Addr) ≠ ⟨g, 0, none⟩ := fun e => by rw [e, hB.cell0] at h1; cases h1
  have n1 : (⟨b', off + i, none⟩ : Addr) ≠ ⟨g, 1, none⟩ := fun e => by rw [e, hB.cell1] at h1; cases h1
  rw [World.cell?_setCell_other, World.cell?_setCell_other]
  · exact h1
  · exact n0.symm
  · exact n1.symm
theorem shl_few0 {xs : List Nat} (h : Ok xs) {j k : Nat} (hl : xs.length ≤ j) : (lim (val xs * 2 ^ k)).length ≤ j + (k / 32 + 1) := by
  refine lim_length_le ?_
  have h1 : val xs < BB ^ j := Nat.lt_of_lt_of_le (val_lt h) (Nat.pow_le_pow_right BB_pos hl)
  have h2 : 2 ^ k ≤ BB ^ (k / 32 + 1) := by rw [show BB = 2 ^ 32 from rfl, ← Nat.pow_mul]; exact Nat.pow_le_pow_right (by decide) (by omega)
  rw [Nat.pow_add]
  exact Nat.mul_lt_mul_of_lt_of_le h1 h2 (Nat.pow_pos BB_pos)
theorem shl_few {xs : List Nat} (h : Ok xs) (hl : xs.length ≤ 600) {k : Nat} (hk : k ≤ 65536) : (lim (val xs * 2 ^ k)).length ≤ 10000 := by
  have := shl_few0 (k := k) h hl
  omega

set_option maxRecDepth 100000 in
set_option maxHeartbeats 8000000 in
theorem lback_walk (v0 : Value) (xs : List Nat) (s : ByteArray) (n : Int) (w : World) (h0 : Nums w v0 xs) (hs : s.size ≤ 9223372036854775807) (hn : -9223372036854775808 ≤ n ∧ n ≤ 9223372036854775807) (hT : TabW w) :
    Calls Tryd.prog 4 #[v0, .string s, .int .i64 n] w fun e w' => e = .returned (.bool true) ∧ Below w.heap.size w w' := by
  have N0 := hide h0
  have HT := hide hT
  clear hT
  obtain ⟨o0, a0, c0, rfl, hl0, hm0, _⟩ := h0
  unfold maxLen at hm0
  go_enter Tryd.func4, Tryd.ntmps4
  go_wp2_with fail
  refine (works_any _).mono ?_
  rintro e w1 ⟨rfl, hb⟩
  have HB := hide hb
  clear hb
  by_cases g1 : 600 < xs.length
  · have g1I : (600 : Int) < (xs.length : Int) := by omega
    go_wp2
    go_ret
    exact ⟨rfl, HB.out⟩
  have G1 : ¬ (600 : Int) < (xs.length : Int) := by omega
  by_cases g2 : 4000 < s.size
  · have g2I : (4000 : Int) < (s.size : Int) := by omega
    go_wp2
    go_ret
    exact ⟨rfl, HB.out⟩
  have G2 : ¬ (4000 : Int) < (s.size : Int) := by omega
  by_cases g3 : n < 0
  · skip
    go_wp2
    go_ret
    exact ⟨rfl, HB.out⟩
  by_cases g4 : 65536 < n
  · skip
    go_wp2
    go_ret
    exact ⟨rfl, HB.out⟩
  obtain ⟨k, rfl⟩ : ∃ k : Nat, n = (k : Int) := ⟨n.toNat, by omega⟩
  have K1 : Hid (k ≤ 65536) := hide (by omega)
  have GX : Hid (xs.length ≤ 600) := hide (by omega)
  have GS : Hid (s.size ≤ 4000) := hide (by omega)
  have TG := hide (txt_good (val xs))
  have TZ : Hid (0 < (txt (val xs)).size ∧ (txt (val xs)).size ≤ 65536) := hide (by have h2 := dec_bound (val_lt N0.out.ok); have h3 := GX.out; rw [dec_length] at h2; rw [txt_size]; omega)
  go_wp2_with fail
  refine (text_any _ xs _ (N0.out.below HB.out) (by have := GX.out; omega)).mono ?_
  rintro e w2 ⟨rfl, hb⟩
  replace HB := hide (HB.out.trans ((hb).mono HB.out.size))
  clear hb
  go_wp2_with fail
  refine (read_any (txt (val xs)) _ (by have := TZ.out; omega)).mono ?_
  rintro e w3 ⟨v1, ys, a, b, rfl, hy, hrd, hb⟩
  replace HB := hide (HB.out.trans ((hb).mono HB.out.size))
  obtain ⟨rfl, rfl, rfl⟩ := rd_good hrd TZ.out.1 TZ.out.2 TG.out.1
  rw [TG.out.2] at hy
  have Y1 := hide hy
  clear hy hrd hb
  have HB0 := hide (show w.heap.size ≤ w3.heap.size from HB.out.size)
  go_upto_region 6 with fail
  have al := below_alloc w3 (.cells #[.int .i64 0, .int .i64 0] 35)
  replace HB := hide (HB.out.trans ((al).mono HB.out.size))
  replace Y1 := hide (Y1.out.below (al))
  clear al
  have B8 := hide (Box2.new w3 35 (.int .i64 0) (.int .i64 0))
  generalize w3.alloc (.cells #[.int .i64 0, .int .i64 0] 35) = w4 at *
  generalize hg8 : w3.heap.size = g8 at *
  have L8 : Hid (w.heap.size ≤ g8) := hide HB0.out
  clear hg8
  have c0 := B8.out.cell0
  have c1 := B8.out.cell1
  go_wp2_with fail
  refine (norm_any _ xs _ (N0.out.below HB.out) (by have := GX.out; omega)).mono ?_
  rintro e w5 ⟨v2, rfl, _, hN, hb⟩
  clear c0 c1
  replace HB := hide (HB.out.trans ((hb).mono HB.out.size))
  replace Y1 := hide (Y1.out.below (hb))
  replace B8 := hide (B8.out.step (hb))
  have Y2 := hide hN
  clear hN hb
  go_wp2_with fail
  refine (equal_yes _ _ (lim (val xs)) _ Y1.out Y2.out).mono ?_
  rintro e w6 ⟨rfl, hb⟩
  replace HB := hide (HB.out.trans ((hb).mono HB.out.size))
  replace Y1 := hide (Y1.out.below (hb))
  replace B8 := hide (B8.out.step (hb))
  replace Y2 := hide (Y2.out.below (hb))
  clear hb Y1 Y2
  go_wp2_with fail
  refine (read_any s _ hs).mono ?_
  rintro e w7 ⟨v3, zs, a, b, rfl, hz, hrd, hb⟩
  replace HB := hide (HB.out.trans ((hb).mono HB.out.size))
  replace B8 := hide (B8.out.step (hb))
  have Z1 := hide hz
  have RD := hide hrd
  have hab := rd_nat hrd
  clear hz hrd hb
  have c0 := B8.out.cell0
  have c1 := B8.out.cell1
  have f0 := B8.out.free 0
  have f1 := B8.out.free 1
  go_upto_region 9 with fail
  clear c0 c1 f0 f1
  have B9 := hide ((B8.out.set0 (.int .i64 (a : Nat))).set1 (.int .i64 (b : Nat)))
  have HB9 := hide ((HB.out.setCell (p := ⟨g8, 0, none⟩) L8.out (.int .i64 (a : Nat))).setCell (p := ⟨g8, 1, none⟩) L8.out (.int .i64 (b : Nat)))
  have Z9 := hide (Z1.out.off2 B8.out (a := a) (b := b))
  generalize ((w7.setCell ⟨g8, 0, none⟩ (.int .i64 (a : Nat))).setCell ⟨g8, 1, none⟩ (.int .i64 (b : Nat))) = w8 at *
  clear HB Z1 B8
  have d0 := B9.out.cell0
  have d1 := B9.out.cell1
  by_cases ha : a = 0
  · subst ha
    have LZ := hide (rd_few RD.out)
    have TOLD := hide (rd_told RD.out)
    obtain rfl := TOLD.out.1
    go_wp2_with fail
    refine (text_any _ zs _ Z9.out (by have := LZ.out; omega)).mono ?_
    rintro e w9 ⟨rfl, hb⟩
    rw [TOLD.out.2.1]
    clear d0 d1
    replace HB9 := hide (HB9.out.trans ((hb).mono HB9.out.size))
    replace Z9 := hide (Z9.out.below (hb))
    replace B9 := hide (B9.out.step (hb))
    clear hb
    go_wp2_with fail
    refine (shl_any _ xs k _ (N0.out.below HB9.out) K1.out (by have := GX.out; omega)).mono ?_
    rintro e w10 ⟨v5, rfl, hN, hb⟩
    replace HB9 := hide (HB9.out.trans ((hb).mono HB9.out.size))
    replace Z9 := hide (Z9.out.below (hb))
    replace B9 := hide (B9.out.step (hb))
    have S1 := hide hN
    clear hN hb
    have LS : Hid ((lim (val xs * 2 ^ k)).length ≤ 10000) := hide (shl_few N0.out.ok GX.out K1.out)
    go_wp2_with fail
    refine (shr_any _ (lim (val xs * 2 ^ k)) k _ S1.out (by have := K1.out; omega) (by have := LS.out; omega)).mono ?_
    rintro e w11 ⟨v6, rfl, hN, hb⟩
    replace HB9 := hide (HB9.out.trans ((hb).mono HB9.out.size))
    replace Z9 := hide (Z9.out.below (hb))
    replace B9 := hide (B9.out.step (hb))
    replace S1 := hide (S1.out.below (hb))
    rw [val_lim, Nat.mul_div_cancel _ (Nat.two_pow_pos k)] at hN
    have R1 := hide hN
    clear hN hb
    go_wp2_with fail
    refine (norm_any _ xs _ (N0.out.below HB9.out) (by have := GX.out; omega)).mono ?_
    rintro e w12 ⟨v7, rfl, _, hN, hb⟩
    replace HB9 := hide (HB9.out.trans ((hb).mono HB9.out.size))
    replace Z9 := hide (Z9.out.below (hb))
    replace B9 := hide (B9.out.step (hb))
    replace S1 := hide (S1.out.below (hb))
    replace R1 := hide (R1.out.below (hb))
    have Y2 := hide hN
    clear hN hb
    go_wp2_with fail
    refine (equal_yes _ _ (lim (val xs)) _ R1.out Y2.out).mono ?_
    rintro e w13 ⟨rfl, hb⟩
    replace HB9 := hide (HB9.out.trans ((hb).mono HB9.out.size))
    replace Z9 := hide (Z9.out.below (hb))
    replace B9 := hide (B9.out.step (hb))
    replace S1 := hide (S1.out.below (hb))
    replace R1 := hide (R1.out.below (hb))
    replace Y2 := hide (Y2.out.below (hb))
    clear hb Y2
    have RR := R1.out
    obtain ⟨_, ar, cr, rfl, _, _, _⟩ := RR
    have SS := S1.out
    obtain ⟨_, ax, cx, rfl, _, _, _⟩ := SS
    by_cases hz : val xs = 0
    · have ez : (lim (val xs)).length = 0 := by rw [hz]; rfl
      have es : (lim (val xs * 2 ^ k)).length = 0 := by rw [hz, Nat.zero_mul]; rfl
      rw [ez, es]
      go_wp2
      go_ret
      exact ⟨rfl, HB9.out⟩
    have hp : 0 < val xs := Nat.pos_of_ne_zero hz
    have hlp : 0 < (lim (val xs)).length := by rw [lim_pos hp]; simp
    have hlz : (((lim (val xs)).length : Int) == 0) = false := by rw [beq_eq_false_iff_ne]; omega
    clear hlp
    have HP := hide hp
    have HZ := hide hz
    clear hp hz
    go_wp2_with fail
    refine (twos_any _ (lim (val xs * 2 ^ k)) _ S1.out (HT.out.below HB9.out) (by have := LS.out; omega) (by rw [val_lim]; exact Nat.ne_of_gt (Nat.mul_pos HP.out (Nat.two_pow_pos k)))).mono ?_
    rintro e w14 ⟨t1, rfl, ht1, ht1b, rfl⟩
    rw [val_lim] at ht1
    have T1 := hide ht1
    clear ht1
    go_wp2_with fail
    refine (twos_any _ xs _ (N0.out.below HB9.out) (HT.out.below HB9.out) (by have := GX.out; omega) HZ.out).mono ?_
    rintro e w15 ⟨t2, rfl, ht2, ht2b, rfl⟩
    obtain rfl := T1.out.only (ht2.times k)
    clear ht2 T1
    have ek : (((t2 + k : Nat) : Int) == (t2 : Int) + (k : Int)) = true := by simp
    have K2 := K1.out
    go_wp2_with fail
    refine (lbitsX_any _ (lim (val xs * 2 ^ k)) _ S1.out (by have := LS.out; omega)).mono ?_
    rintro e w16 ⟨l1, rfl, hl1, hl1b, rfl⟩
    rw [val_lim] at hl1
    have B1 := hide hl1
    clear hl1
    go_wp2_with fail
    refine (lbitsX_any _ xs _ (N0.out.below HB9.out) (by have := GX.out; omega)).mono ?_
    rintro e w17 ⟨l2, rfl, hl2, hl2b, rfl⟩
    obtain rfl := B1.out.onlyL (len_times (n := k) hl2 HP.out) (Nat.mul_pos HP.out (Nat.two_pow_pos k))
    have BT := hide (bit_top B1.out (Nat.mul_pos HP.out (Nat.two_pow_pos k)))
    clear hl2 B1
    have el : (((l2 + k : Nat) : Int) == (l2 : Int) + (k : Int)) = true := by simp
    have HBT : Hid (∀ w0, Nums w0 (.slice ax (lim (val xs * 2 ^ k)).length cx) (lim (val xs * 2 ^ k)) → Calls Tryd.prog 13 #[.slice ax (lim (val xs * 2 ^ k)).length cx, .int .i64 ((k : Int) - 1)] w0 fun e w' => e = .returned (.bool false) ∧ w' = w0) := hide (fun w0 hN => by
      by_cases hk : k = 0
      · subst hk; exact bit_neg _ _ _ _ hN (by omega)
      · have := bit_any _ _ (k - 1) w0 hN (by omega)
        rw [val_lim, bit_low (val xs) k (by omega), show (((k - 1 : Nat)) : Int) = (k : Int) - 1 from by omega] at this
        exact this)
    go_wp2_with fail
    refine (HBT.out _ S1.out).mono ?_
    rintro e w18 ⟨rfl, rfl⟩
    go_wp2_with fail
    refine (lbitsX_any _ (lim (val xs * 2 ^ k)) _ S1.out (by have := LS.out; omega)).mono ?_
    rintro e w19 ⟨l3, rfl, hl3, hl3b, rfl⟩
    rw [val_lim] at hl3
    have BU := hide (bit_top hl3 (Nat.mul_pos HP.out (Nat.two_pow_pos k)))
    clear hl3
    have hl1 := BU.out.1
    go_wp2_with fail
    rw [show ((l3 : Int) - 1) = (((l3 - 1 : Nat)) : Int) from by omega]
    refine (bit_any _ (lim (val xs * 2 ^ k)) (l3 - 1) _ S1.out (by omega)).mono ?_
    rintro e w20 ⟨rfl, rfl⟩
    rw [val_lim, BU.out.2]
    go_wp2
    go_ret
    exact ⟨rfl, HB9.out⟩
  · clear RD
    have haI : (((a : Nat) : Int) == 0) = false := by simp; omega
    have hae : ¬ ((a : Nat) : Int) = 0 := by omega
    go_wp2_with fail
    refine (shl_any _ xs k _ (N0.out.below HB9.out) K1.out (by have := GX.out; omega)).mono ?_
    rintro e w10 ⟨v5, rfl, hN, hb⟩
    replace HB9 := hide (HB9.out.trans ((hb).mono HB9.out.size))
    replace Z9 := hide (Z9.out.below (hb))
    replace B9 := hide (B9.out.step (hb))
    have S1 := hide hN
    clear hN hb
    have LS : Hid ((lim (val xs * 2 ^ k)).length ≤ 10000) := hide (shl_few N0.out.ok GX.out K1.out)
    go_wp2_with fail
    refine (shr_any _ (lim (val xs * 2 ^ k)) k _ S1.out (by have := K1.out; omega) (by have := LS.out; omega)).mono ?_
    rintro e w11 ⟨v6, rfl, hN, hb⟩
    replace HB9 := hide (HB9.out.trans ((hb).mono HB9.out.size))
    replace Z9 := hide (Z9.out.below (hb))
    replace B9 := hide (B9.out.step (hb))
    replace S1 := hide (S1.out.below (hb))
    rw [val_lim, Nat.mul_div_cancel _ (Nat.two_pow_pos k)] at hN
    have R1 := hide hN
    clear hN hb
    go_wp2_with fail
    refine (norm_any _ xs _ (N0.out.below HB9.out) (by have := GX.out; omega)).mono ?_
    rintro e w12 ⟨v7, rfl, _, hN, hb⟩
    replace HB9 := hide (HB9.out.trans ((hb).mono HB9.out.size))
    replace Z9 := hide (Z9.out.below (hb))
    replace B9 := hide (B9.out.step (hb))
    replace S1 := hide (S1.out.below (hb))
    replace R1 := hide (R1.out.below (hb))
    have Y2 := hide hN
    clear hN hb
    go_wp2_with fail
    refine (equal_yes _ _ (lim (val xs)) _ R1.out Y2.out).mono ?_
    rintro e w13 ⟨rfl, hb⟩
    replace HB9 := hide (HB9.out.trans ((hb).mono HB9.out.size))
    replace Z9 := hide (Z9.out.below (hb))
    replace B9 := hide (B9.out.step (hb))
    replace S1 := hide (S1.out.below (hb))
    replace R1 := hide (R1.out.below (hb))
    replace Y2 := hide (Y2.out.below (hb))
    clear hb Y2
    have RR := R1.out
    obtain ⟨_, ar, cr, rfl, _, _, _⟩ := RR
    have SS := S1.out
    obtain ⟨_, ax, cx, rfl, _, _, _⟩ := SS
    by_cases hz : val xs = 0
    · have ez : (lim (val xs)).length = 0 := by rw [hz]; rfl
      have es : (lim (val xs * 2 ^ k)).length = 0 := by rw [hz, Nat.zero_mul]; rfl
      rw [ez, es]
      go_wp2
      go_ret
      exact ⟨rfl, HB9.out⟩
    have hp : 0 < val xs := Nat.pos_of_ne_zero hz
    have hlp : 0 < (lim (val xs)).length := by rw [lim_pos hp]; simp
    have hlz : (((lim (val xs)).length : Int) == 0) = false := by rw [beq_eq_false_iff_ne]; omega
    clear hlp
    have HP := hide hp
    have HZ := hide hz
    clear hp hz
    go_wp2_with fail
    refine (twos_any _ (lim (val xs * 2 ^ k)) _ S1.out (HT.out.below HB9.out) (by have := LS.out; omega) (by rw [val_lim]; exact Nat.ne_of_gt (Nat.mul_pos HP.out (Nat.two_pow_pos k)))).mono ?_
    rintro e w14 ⟨t1, rfl, ht1, ht1b, rfl⟩
    rw [val_lim] at ht1
    have T1 := hide ht1
    clear ht1
    go_wp2_with fail
    refine (twos_any _ xs _ (N0.out.below HB9.out) (HT.out.below HB9.out) (by have := GX.out; omega) HZ.out).mono ?_
    rintro e w15 ⟨t2, rfl, ht2, ht2b, rfl⟩
    obtain rfl := T1.out.only (ht2.times k)
    clear ht2 T1
    have ek : (((t2 + k : Nat) : Int) == (t2 : Int) + (k : Int)) = true := by simp
    have K2 := K1.out
    go_wp2_with fail
    refine (lbitsX_any _ (lim (val xs * 2 ^ k)) _ S1.out (by have := LS.out; omega)).mono ?_
    rintro e w16 ⟨l1, rfl, hl1, hl1b, rfl⟩
    rw [val_lim] at hl1
    have B1 := hide hl1
    clear hl1
    go_wp2_with fail
    refine (lbitsX_any _ xs _ (N0.out.below HB9.out) (by have := GX.out; omega)).mono ?_
    rintro e w17 ⟨l2, rfl, hl2, hl2b, rfl⟩
    obtain rfl := B1.out.onlyL (len_times (n := k) hl2 HP.out) (Nat.mul_pos HP.out (Nat.two_pow_pos k))
    have BT := hide (bit_top B1.out (Nat.mul_pos HP.out (Nat.two_pow_pos k)))
    clear hl2 B1
    have el : (((l2 + k : Nat) : Int) == (l2 : Int) + (k : Int)) = true := by simp
    have HBT : Hid (∀ w0, Nums w0 (.slice ax (lim (val xs * 2 ^ k)).length cx) (lim (val xs * 2 ^ k)) → Calls Tryd.prog 13 #[.slice ax (lim (val xs * 2 ^ k)).length cx, .int .i64 ((k : Int) - 1)] w0 fun e w' => e = .returned (.bool false) ∧ w' = w0) := hide (fun w0 hN => by
      by_cases hk : k = 0
      · subst hk; exact bit_neg _ _ _ _ hN (by omega)
      · have := bit_any _ _ (k - 1) w0 hN (by omega)
        rw [val_lim, bit_low (val xs) k (by omega), show (((k - 1 : Nat)) : Int) = (k : Int) - 1 from by omega] at this
        exact this)
    go_wp2_with fail
    refine (HBT.out _ S1.out).mono ?_
    rintro e w18 ⟨rfl, rfl⟩
    go_wp2_with fail
    refine (lbitsX_any _ (lim (val xs * 2 ^ k)) _ S1.out (by have := LS.out; omega)).mono ?_
    rintro e w19 ⟨l3, rfl, hl3, hl3b, rfl⟩
    rw [val_lim] at hl3
    have BU := hide (bit_top hl3 (Nat.mul_pos HP.out (Nat.two_pow_pos k)))
    clear hl3
    have hl1 := BU.out.1
    go_wp2_with fail
    rw [show ((l3 : Int) - 1) = (((l3 - 1 : Nat)) : Int) from by omega]
    refine (bit_any _ (lim (val xs * 2 ^ k)) (l3 - 1) _ S1.out (by omega)).mono ?_
    rintro e w20 ⟨rfl, rfl⟩
    rw [val_lim, BU.out.2]
    go_wp2
    go_ret
    exact ⟨rfl, HB9.out⟩
end Go.Proofs.YtamcmdabhlbnjaaDoor
