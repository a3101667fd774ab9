/- limb.firstUnit and limb.groupsOf: a number's groups of nine digits. -/
import Derived.Test.YtdafdfgkfkanjaaDoorDivMod
import Derived.Test.YtdafdfgkfkanjaaDoorDec
namespace Go.Proofs.YtdafdfgkfkanjaaDoor
open Go.RowKit

/-- a power of ten -/
def pw (k : Nat) : Nat := 10 ^ k

theorem unit_next {g u k : Nat} (hu : u = 10 ^ k) (h : 10 ≤ g / u) : u * 10 = 10 ^ (k + 1) ∧ 10 ^ (k + 1) ≤ g := by
  subst hu
  have hp := pow_pos10 k
  have := (Nat.le_div_iff_mul_le hp).1 h
  rw [pow_succ10]; exact ⟨by omega, by omega⟩
theorem unit_last {g u k : Nat} (hu : u = 10 ^ k) (hk : k = 0 ∨ 10 ^ k ≤ g) (h : ¬ 10 ≤ g / u) : nd g = k := by
  subst hu
  have hp := pow_pos10 k
  refine nd_unique ?_ hk
  rw [pow_succ10]
  have : g / 10 ^ k < 10 := by omega
  rw [Nat.div_lt_iff_lt_mul hp] at this; omega

set_option maxRecDepth 100000 in
set_option maxHeartbeats 400000 in
theorem firstUnit_any (g : Nat) (w : World) (hg : g < UU) :
    Calls Tryd.prog 56 #[.int .u32 g] w fun e w' => e = .returned (.int .u32 (pw (nd g) : Nat)) ∧ w = w' := by
  have HG := hide hg
  unfold UU at hg
  go_enter Tryd.func56, Tryd.ntmps56
  go_wp2
  go_loop [3] (fun t => ∃ k u : Nat, Hid (u = 10 ^ k) ∧ (k = 0 ∨ 10 ^ k ≤ g) ∧ 1 ≤ u ∧ t = .int .u32 u ∧ u ≤ 100000000) (fun t => 100000000 - (intOf t).toNat)
  case atStart => exact ⟨0, 1, rfl, .inl rfl, Nat.le_refl _, rfl, by omega⟩
  case round =>
    obtain ⟨k, u, hu, hk, h1, rfl, h2⟩ := hrel
    have HK := hide hk
    clear hk
    have hq0 : (0 : Int) ≤ (g : Int) / (u : Int) := by rw [← Int.natCast_ediv]; exact Int.natCast_nonneg _
    have hq1 : (g : Int) / (u : Int) ≤ 999999999 := by rw [← Int.natCast_ediv]; have := Nat.div_le_self g u; omega
    by_cases hc : 10 ≤ g / u
    · have hcI : (10 : Int) ≤ (g : Int) / (u : Int) := by rw [← Int.natCast_ediv]; omega
      obtain ⟨e1, e2⟩ := unit_next hu.out hc
      have hle : u * 10 ≤ 100000000 := by
        rw [e1]
        rcases Nat.lt_or_ge (k + 1) 9 with hk9 | hk9
        · exact Nat.le_trans (Nat.pow_le_pow_right (by decide) (show k + 1 ≤ 8 by omega)) (by decide)
        · have : 10 ^ 9 ≤ 10 ^ (k + 1) := Nat.pow_le_pow_right (by decide) hk9
          have : (10 : Nat) ^ 9 = 1000000000 := by decide
          omega
      have HE1 := hide e1
      have HE2 := hide e2
      clear e1 e2 hc
      go_wp2
      go_round
      case rel => exact ⟨k + 1, u * 10, HE1, .inr HE2.out, by omega, by go_num, hle⟩
      case measure => simp [intOf]; omega
    · have hcI : ¬ (10 : Int) ≤ (g : Int) / (u : Int) := by rw [← Int.natCast_ediv]; omega
      have HN := hide (unit_last hu.out HK.out hc)
      clear hc
      go_wp2
      go_ret
      exact ⟨by unfold pw; rw [HN.out, ← hu.out]; rfl, rfl⟩

theorem Own.alloc {w : World} {base : Nat} {v : Value} {xs : List Nat} (h : Own w base v xs) (o : Obj) : Own (w.alloc o) base v xs := World.ownsRow.alloc h o

theorem Own.mono {w : World} {base base' : Nat} {v : Value} {xs : List Nat} (h : Own w base v xs) (hb : base' ≤ base) : Own w base' v xs := by
  unfold Own at *
  refine ⟨h.1, ?_⟩
  rcases h.2 with h2 | ⟨g, cap, cur, hv, hg, r⟩
  · exact .inl h2
  · exact .inr ⟨g, cap, cur, hv, Nat.le_trans hb hg, r⟩

theorem ok_grp (n : Nat) : Ok (grp n) := fun x hx => Nat.lt_trans (grp_lt n x hx) (by decide)

theorem Own.lt {w : World} {base : Nat} {v : Value} {xs : List Nat} (h : Own w base v xs) : ∀ k, v.ownBlock = some k → base ≤ k ∧ k < w.heap.size := World.ownsRow.lt h

theorem lit_own (w : World) (base n : Nat) (x : Int) (hx : x = n) (hb : base ≤ w.heap.size) : Own (w.alloc (.cells #[.int .u32 x] 74)) base (.slice (some ⟨w.heap.size, 0, none⟩) 1 1) [n] := by
  subst hx
  exact World.ownsRow_lit w #[.int .u32 (n : Int)] 1 hb (by simp [maxLen]) rfl

theorem grp_count {m l n k : Nat} (h : m * 2 ^ l ≤ n) (hm : 0 < m) (hn : n < BB ^ k) : l < 32 * k := by
  have h1 : 2 ^ l ≤ n := Nat.le_trans (Nat.le_mul_of_pos_left _ hm) h
  have h2 : BB ^ k = 2 ^ (32 * k) := by rw [Nat.pow_mul]; rfl
  rw [h2] at hn
  exact (Nat.pow_lt_pow_iff_right (by decide)).1 (Nat.lt_of_le_of_lt h1 hn)
theorem grp_half {m l n x : Nat} {acc : List Nat} (h : m * 2 ^ acc.length ≤ n) (hl : l = (acc ++ [x]).length) : m / UU * 2 ^ l ≤ n := by
  subst hl
  rw [List.length_append, List.length_singleton, Nat.pow_succ, Nat.mul_comm (2 ^ acc.length) 2, ← Nat.mul_assoc]
  exact Nat.le_trans (Nat.mul_le_mul_right _ (by unfold UU; omega)) h

set_option maxRecDepth 100000 in
set_option maxHeartbeats 1000000 in
theorem groupsOf_any (v : Value) (xs : List Nat) (w : World) (h : Nums w v xs) (b1 : xs.length ≤ 1000000000) :
    Calls Tryd.prog 54 #[v] w fun e w' => ∃ v', e = .returned v' ∧ Own w' w.heap.size v' (grp (val xs)) ∧ Below w.heap.size w w' := by
  obtain ⟨i0, hi, hz0, hz1, hz2⟩ := info_parts Tryd.info74
  have HVL := hide (val_lt h.ok)
  go_enter Tryd.func54, Tryd.ntmps54
  go_wp2_with fail
  refine (norm_any _ xs _ h b1).mono ?_
  rintro e w1 ⟨v1, rfl, hO1, _, hb1⟩
  clear h
  go_wp2_with fail
  refine (divideOwn_any _ _ 1000000000 _ _ hO1 (ok_lim _) (by omega) (by omega)).mono ?_
  rintro e w2 ⟨v2, rfl, hO2, hb2, _, hk2⟩
  clear hO1
  rw [val_lim] at hO2
  go_wp2_with fail
  have hO3 : Own (w2.alloc (.cells #[.int .u32 ((val (lim (val xs)) : Int) % 1000000000)] 74)) w2.heap.size (.slice (some ⟨w2.heap.size, 0, none⟩) 1 1) [val xs % UU] := lit_own _ _ _ _ (by rw [val_lim]; unfold UU; omega) (Nat.le_refl _)
  have hO2' := hO2.alloc (.cells #[.int .u32 ((val (lim (val xs)) : Int) % 1000000000)] 74)
  have hlt2 : ∀ k, v2.ownBlock = some k → k < w2.heap.size := fun k hk => (hO2.lt k hk).2
  have hB2 : Below w.heap.size w (w2.alloc (.cells #[.int .u32 ((val (lim (val xs)) : Int) % 1000000000)] 74)) := (hb1.trans hb2).alloc (hb1.trans hb2).size _
  have hsz : w2.heap.size ≤ (w2.alloc (.cells #[.int .u32 ((val (lim (val xs)) : Int) % 1000000000)] 74)).heap.size := by simp
  have hws := (hb1.trans hb2).size
  have hlen0 : val xs / UU * 2 ^ [val xs % UU].length ≤ val xs := by simp; unfold UU; omega
  clear hO2 hb1 hb2 hk2
  generalize hW : w2.alloc (.cells #[.int .u32 ((val (lim (val xs)) : Int) % 1000000000)] 74) = w3 at *
  clear hW
  go_loopw [3, 5] (fun rv gv wr => ∃ (m : Nat) (acc : List Nat), grp (val xs) = acc ++ grpR m ∧ m * 2 ^ acc.length ≤ val xs ∧ Own wr w.heap.size rv (lim m) ∧ Own wr w2.heap.size gv acc ∧ (∀ k, rv.ownBlock = some k → k < w2.heap.size) ∧ Below w.heap.size w wr ∧ w2.heap.size ≤ wr.heap.size) (fun rv _ wr => numOf wr rv)
  case atStart => exact ⟨val xs / UU, [val xs % UU], grp_eq _, hlen0, hO2', hO3, hlt2, hB2, hsz⟩
  case round =>
    clear hlen0 hO2' hO3 hlt2 hB2 hsz
    obtain ⟨m, acc, hgrp, hlen, hOr, hOg, hlt, hbel, hsz⟩ := hrel
    have HG := hide hgrp
    have HLEN := hide hlen
    clear hgrp hlen
    by_cases hm : m = 0
    · subst hm
      rw [lim_zero] at hOr
      rcases hOr.2 with ⟨rfl, h0⟩ | ⟨g, cap, cur, rfl, _, _, _, _, _, _⟩
      all_goals
        go_wp2
        go_ret
        have e : grp (val xs) = acc := by rw [HG.out, grpR_zero, List.append_nil]
        exact ⟨_, rfl, by rw [e]; exact hOg.mono hws, hbel⟩
    · have hpos : 0 < (lim m).length := lim_len_pos (by omega)
      have hnum := (hOr.nums (ok_lim m)).numOf
      rw [val_lim] at hnum
      have HNUM := hide hnum
      have HO := hide hOr
      have HOG := hide hOg
      rcases hOr.2 with ⟨rfl, h0⟩ | ⟨g, cap, cur, rfl, _, _, hnc, hcm, _, _⟩
      · omega
      · clear hOr hOg hnum
        have HLT := hide (hlt g rfl)
        unfold maxLen at hcm
        go_wp2_with fail
        refine (divideOwn_any _ _ 1000000000 _ _ HO.out (ok_lim _) (by omega) (by omega)).mono ?_
        rintro e w5 ⟨v5, rfl, hO5, hb5, hg5, hk5⟩
        rw [val_lim] at hO5
        have hOg5 : Own w5 w2.heap.size _ acc := World.ownsRow.kept HOG.out hg5 (by
          cases hv : Value.ownBlock _ with
          | none => exact .inl rfl
          | some k => refine .inr ?_; intro e; have h1 := (HOG.out.lt k hv).1; have h2 := HLT.out; rw [show Value.ownBlock (.slice (some ⟨g, 0, none⟩) (lim m).length cap) = some g from rfl] at e; simp at e; omega)
        have HOG5 := hide hOg5
        have HO5 := hide hO5
        have hsz5 : w2.heap.size ≤ w5.heap.size := Nat.le_trans hsz hg5.size
        have HB5 := hide (hbel.trans hb5)
        have HK5 := hide hk5
        clear hb5 hg5 hOg5 hO5 hk5 hbel
        go_wp2_with (at_builtin; refine wpList_append_own _ rfl _ _ 47 rfl w2.heap.size 74 i0 (.int .u32 0) 1 4 Tryd.underlying47 hi hz0 hz1 hz2 rfl (by decide) _ _ _ rfl (World.ownsRow.alloc HOG5.out _) ⟨w5.heap.size, 0, none⟩ 1 1 [.int .u32 ((val (lim m) : Int) % 1000000000)] rfl rfl ?c1 ?c2 ?c3 ?c4 ?c5 ?_)
        case c1 =>
          intro j u hj
          match j, hj with
          | 0, hj => simp at hj; subst hj; simp [Addr.add]
        case c2 => intro u hu; simp at hu; subst hu; rfl
        case c3 => have := grp_count HLEN.out (by omega) HVL.out; unfold maxLen; omega
        case c4 => have := grp_count HLEN.out (by omega) HVL.out; omega
        case c5 => simp; omega
        intro v6 w6 hown6 hgrow6 _
        have HOr : Hid (Own w6 w.heap.size v5 (lim (m / 1000000000))) := World.ownsRow.kept (World.ownsRow.alloc HO5.out _) hgrow6 (by
          cases hv : Value.ownBlock v5 with
          | none => exact .inl rfl
          | some k => refine .inr ?_; intro e; have h1 := (HOG5.out.lt k e.symm).1; rw [HK5.out] at hv; have h2 := HLT.out; rw [show Value.ownBlock (.slice (some ⟨g, 0, none⟩) (lim m).length cap) = some g from rfl] at hv; simp at hv; omega)
        have e1 : ints acc ++ [Value.int .u32 ((val (lim m) : Int) % 1000000000)] = ints (acc ++ [m % UU]) := by rw [val_lim]; simp [ints, UU]
        rw [e1] at hown6
        have HOg : Hid (Own w6 w2.heap.size v6 (acc ++ [m % UU])) := by show World.ownsRow _ _ _ _ _ _ _; simpa using hown6
        have HB6 := hide ((HB5.out.alloc HB5.out.size (.cells #[.int .u32 ((val (lim m) : Int) % 1000000000)] 74)).grown hgrow6 (by have := HB5.out.size; simp; omega) (fun k hk => Nat.le_trans hws (HOG5.out.lt k hk).1))
        have HS6 : Hid (w2.heap.size ≤ w6.heap.size) := by have := hgrow6.size; simp at this; show _ ≤ _; omega
        clear hown6 hgrow6
        go_wp2
        go_roundw
        case rel => exact ⟨m / UU, acc ++ [m % UU], by rw [HG.out, grpR_pos (by omega)]; simp, grp_half HLEN.out rfl, HOr.out, HOg.out, fun k hk => by rw [HK5.out] at hk; exact hlt k hk, HB6.out, HS6.out⟩
        case measure => rw [HNUM.out, (HOr.out.nums (ok_lim _)).numOf, val_lim]; omega
end Go.Proofs.YtdafdfgkfkanjaaDoor
