/- limb.Text answers a number's digits, as a text. -/
import Derived.Test.YtgkibmigbjjnnaaDivMod
import Derived.Test.YtgkibmigbjjnnaaDec
import Derived.RangeFuncBox
import Derived.RangeFuncLeaves
import Derived.RangeFuncNested
import Derived.Shelf.Abstract
import Derived.OwnWalkIn
import Derived.TacticsInMore
import Derived.LoopNIn
import Derived.LoopIn
import Derived.Maps.AppendAt
import Derived.Laws.BytesArg
namespace Go.Proofs.Ytgkibmigbjjnnaa
open Go.RowKit

/-- a power of ten -/
def pw (k : Nat) : Nat := 10 ^ k

theorem unit_next {g u k : Nat} (hu : u = 10 ^ k) (h : 10 ≤ g / u) : u * 10 = 10 ^ (k + 1) ∧ 10 ^ (k + 1) ≤ g := by
  subst hu
  have hp := pow_pos10 k
  have := (Nat.le_div_iff_mul_le hp).1 h
  rw [pow_succ10]; exact ⟨by omega, by omega⟩
theorem unit_last {g u k : Nat} (hu : u = 10 ^ k) (hk : k = 0 ∨ 10 ^ k ≤ g) (h : ¬ 10 ≤ g / u) : nd g = k := by
  subst hu
  have hp := pow_pos10 k
  refine nd_unique ?_ hk
  rw [pow_succ10]
  have : g / 10 ^ k < 10 := by omega
  rw [Nat.div_lt_iff_lt_mul hp] at this; omega

set_option maxRecDepth 100000 in
set_option maxHeartbeats 400000 in
theorem firstUnit_any (g : Nat) (w : World) (hg : g < UU) :
    Calls Try.prog 75 #[.int .u32 g] w fun e w' => e = .returned (.int .u32 (pw (nd g) : Nat)) ∧ w = w' := by
  have HG := hide hg
  unfold UU at hg
  go_enter Try.func75, Try.ntmps75
  go_wp2
  go_loop [3] (fun t => ∃ k u : Nat, Hid (u = 10 ^ k) ∧ (k = 0 ∨ 10 ^ k ≤ g) ∧ 1 ≤ u ∧ t = .int .u32 u ∧ u ≤ 100000000) (fun t => 100000000 - (intOf t).toNat)
  case atStart => exact ⟨0, 1, rfl, .inl rfl, Nat.le_refl _, rfl, by omega⟩
  case round =>
    obtain ⟨k, u, hu, hk, h1, rfl, h2⟩ := hrel
    have HK := hide hk
    clear hk
    have hq0 : (0 : Int) ≤ (g : Int) / (u : Int) := by rw [← Int.natCast_ediv]; exact Int.natCast_nonneg _
    have hq1 : (g : Int) / (u : Int) ≤ 999999999 := by rw [← Int.natCast_ediv]; have := Nat.div_le_self g u; omega
    by_cases hc : 10 ≤ g / u
    · have hcI : (10 : Int) ≤ (g : Int) / (u : Int) := by rw [← Int.natCast_ediv]; omega
      obtain ⟨e1, e2⟩ := unit_next hu.out hc
      have hle : u * 10 ≤ 100000000 := by
        rw [e1]
        rcases Nat.lt_or_ge (k + 1) 9 with hk9 | hk9
        · exact Nat.le_trans (Nat.pow_le_pow_right (by decide) (show k + 1 ≤ 8 by omega)) (by decide)
        · have : 10 ^ 9 ≤ 10 ^ (k + 1) := Nat.pow_le_pow_right (by decide) hk9
          have : (10 : Nat) ^ 9 = 1000000000 := by decide
          omega
      have HE1 := hide e1
      have HE2 := hide e2
      clear e1 e2 hc
      go_wp2
      go_round
      case rel => exact ⟨k + 1, u * 10, HE1, .inr HE2.out, by omega, by go_num, hle⟩
      case measure => simp [intOf]; omega
    · have hcI : ¬ (10 : Int) ≤ (g : Int) / (u : Int) := by rw [← Int.natCast_ediv]; omega
      have HN := hide (unit_last hu.out HK.out hc)
      clear hc
      go_wp2
      go_ret
      exact ⟨by unfold pw; rw [HN.out, ← hu.out]; rfl, rfl⟩

theorem Own.alloc {w : World} {base : Nat} {v : Value} {xs : List Nat} (h : Own w base v xs) (o : Obj) : Own (w.alloc o) base v xs := World.ownsRow.alloc h o

theorem Own.mono {w : World} {base base' : Nat} {v : Value} {xs : List Nat} (h : Own w base v xs) (hb : base' ≤ base) : Own w base' v xs := by
  unfold Own at *
  refine ⟨h.1, ?_⟩
  rcases h.2 with h2 | ⟨g, cap, cur, hv, hg, r⟩
  · exact .inl h2
  · exact .inr ⟨g, cap, cur, hv, Nat.le_trans hb hg, r⟩

theorem Own.lt {w : World} {base : Nat} {v : Value} {xs : List Nat} (h : Own w base v xs) : ∀ k, v.ownBlock = some k → base ≤ k ∧ k < w.heap.size := World.ownsRow.lt h

theorem lit_own (w : World) (base n : Nat) (x : Int) (hx : x = n) (hb : base ≤ w.heap.size) : Own (w.alloc (.cells #[.int .u32 x] 84)) base (.slice (some ⟨w.heap.size, 0, none⟩) 1 1) [n] := by
  subst hx
  exact World.ownsRow_lit w #[.int .u32 (n : Int)] 1 hb (by simp [maxLen]) rfl

theorem grp_count {m l n k : Nat} (h : m * 2 ^ l ≤ n) (hm : 0 < m) (hn : n < BB ^ k) : l < 32 * k := by
  have h1 : 2 ^ l ≤ n := Nat.le_trans (Nat.le_mul_of_pos_left _ hm) h
  have h2 : BB ^ k = 2 ^ (32 * k) := by rw [Nat.pow_mul]; rfl
  rw [h2] at hn
  exact (Nat.pow_lt_pow_iff_right (by decide)).1 (Nat.lt_of_le_of_lt h1 hn)
theorem grp_half {m l n x : Nat} {acc : List Nat} (h : m * 2 ^ acc.length ≤ n) (hl : l = (acc ++ [x]).length) : m / UU * 2 ^ l ≤ n := by
  subst hl
  rw [List.length_append, List.length_singleton, Nat.pow_succ, Nat.mul_comm (2 ^ acc.length) 2, ← Nat.mul_assoc]
  exact Nat.le_trans (Nat.mul_le_mul_right _ (by unfold UU; omega)) h

set_option maxRecDepth 100000 in
set_option maxHeartbeats 1000000 in
theorem groupsOf_any (v : Value) (xs : List Nat) (w : World) (h : Nums w v xs) (b1 : xs.length ≤ 1000000000) :
    Calls Try.prog 73 #[v] w fun e w' => ∃ v', e = .returned v' ∧ Own w' w.heap.size v' (grp (val xs)) ∧ Below w.heap.size w w' := by
  obtain ⟨i0, hi, hz0, hz1, hz2⟩ := info_parts Try.info84
  have HVL := hide (val_lt h.ok)
  go_enter Try.func73, Try.ntmps73
  go_wp2_with fail
  refine (norm_any _ xs _ h b1).mono ?_
  rintro e w1 ⟨v1, rfl, hO1, _, hb1⟩
  clear h
  go_wp2_with fail
  refine (divideOwn_any _ _ 1000000000 _ _ hO1 (ok_lim _) (by omega) (by omega)).mono ?_
  rintro e w2 ⟨v2, rfl, hO2, hb2, _, hk2⟩
  clear hO1
  rw [val_lim] at hO2
  go_wp2_with fail
  have hO3 : Own (w2.alloc (.cells #[.int .u32 ((val (lim (val xs)) : Int) % 1000000000)] 84)) w2.heap.size (.slice (some ⟨w2.heap.size, 0, none⟩) 1 1) [val xs % UU] := lit_own _ _ _ _ (by rw [val_lim]; unfold UU; omega) (Nat.le_refl _)
  have hO2' := hO2.alloc (.cells #[.int .u32 ((val (lim (val xs)) : Int) % 1000000000)] 84)
  have hlt2 : ∀ k, v2.ownBlock = some k → k < w2.heap.size := fun k hk => (hO2.lt k hk).2
  have hB2 : Below w.heap.size w (w2.alloc (.cells #[.int .u32 ((val (lim (val xs)) : Int) % 1000000000)] 84)) := (hb1.trans hb2).alloc (hb1.trans hb2).size _
  have hsz : w2.heap.size ≤ (w2.alloc (.cells #[.int .u32 ((val (lim (val xs)) : Int) % 1000000000)] 84)).heap.size := by simp
  have hws := (hb1.trans hb2).size
  have hlen0 : val xs / UU * 2 ^ [val xs % UU].length ≤ val xs := by simp; unfold UU; omega
  clear hO2 hb1 hb2 hk2
  generalize hW : w2.alloc (.cells #[.int .u32 ((val (lim (val xs)) : Int) % 1000000000)] 84) = w3 at *
  clear hW
  go_loopw [3, 5] (fun rv gv wr => ∃ (m : Nat) (acc : List Nat), grp (val xs) = acc ++ grpR m ∧ m * 2 ^ acc.length ≤ val xs ∧ Own wr w.heap.size rv (lim m) ∧ Own wr w2.heap.size gv acc ∧ (∀ k, rv.ownBlock = some k → k < w2.heap.size) ∧ Below w.heap.size w wr ∧ w2.heap.size ≤ wr.heap.size) (fun rv _ wr => numOf wr rv)
  case atStart => exact ⟨val xs / UU, [val xs % UU], grp_eq _, hlen0, hO2', hO3, hlt2, hB2, hsz⟩
  case round =>
    clear hlen0 hO2' hO3 hlt2 hB2 hsz
    obtain ⟨m, acc, hgrp, hlen, hOr, hOg, hlt, hbel, hsz⟩ := hrel
    have HG := hide hgrp
    have HLEN := hide hlen
    clear hgrp hlen
    by_cases hm : m = 0
    · subst hm
      rw [lim_zero] at hOr
      rcases hOr.2 with ⟨rfl, h0⟩ | ⟨g, cap, cur, rfl, _, _, _, _, _, _⟩
      all_goals
        go_wp2
        go_ret
        have e : grp (val xs) = acc := by rw [HG.out, grpR_zero, List.append_nil]
        exact ⟨_, rfl, by rw [e]; exact hOg.mono hws, hbel⟩
    · have hpos : 0 < (lim m).length := lim_len_pos (by omega)
      have hnum := (hOr.nums (ok_lim m)).numOf
      rw [val_lim] at hnum
      have HNUM := hide hnum
      have HO := hide hOr
      have HOG := hide hOg
      rcases hOr.2 with ⟨rfl, h0⟩ | ⟨g, cap, cur, rfl, _, _, hnc, hcm, _, _⟩
      · omega
      · clear hOr hOg hnum
        have HLT := hide (hlt g rfl)
        unfold maxLen at hcm
        go_wp2_with fail
        refine (divideOwn_any _ _ 1000000000 _ _ HO.out (ok_lim _) (by omega) (by omega)).mono ?_
        rintro e w5 ⟨v5, rfl, hO5, hb5, hg5, hk5⟩
        rw [val_lim] at hO5
        have hOg5 : Own w5 w2.heap.size _ acc := World.ownsRow.kept HOG.out hg5 (by
          cases hv : Value.ownBlock _ with
          | none => exact .inl rfl
          | some k => refine .inr ?_; intro e; have h1 := (HOG.out.lt k hv).1; have h2 := HLT.out; rw [show Value.ownBlock (.slice (some ⟨g, 0, none⟩) (lim m).length cap) = some g from rfl] at e; simp at e; omega)
        have HOG5 := hide hOg5
        have HO5 := hide hO5
        have hsz5 : w2.heap.size ≤ w5.heap.size := Nat.le_trans hsz hg5.size
        have HB5 := hide (hbel.trans hb5)
        have HK5 := hide hk5
        clear hb5 hg5 hOg5 hO5 hk5 hbel
        go_wp2_with (at_builtin; refine wpList_append_own _ rfl _ _ 23 rfl w2.heap.size 84 i0 (.int .u32 0) 1 4 Try.underlying23 hi hz0 hz1 hz2 rfl (by decide) _ _ _ rfl (World.ownsRow.alloc HOG5.out _) ⟨w5.heap.size, 0, none⟩ 1 1 [.int .u32 ((val (lim m) : Int) % 1000000000)] rfl rfl ?c1 ?c2 ?c3 ?c4 ?c5 ?_)
        case c1 =>
          intro j u hj
          match j, hj with
          | 0, hj => simp at hj; subst hj; simp [Addr.add]
        case c2 => intro u hu; simp at hu; subst hu; rfl
        case c3 => have := grp_count HLEN.out (by omega) HVL.out; unfold maxLen; omega
        case c4 => have := grp_count HLEN.out (by omega) HVL.out; omega
        case c5 => simp; omega
        intro v6 w6 hown6 hgrow6 _
        have HOr : Hid (Own w6 w.heap.size v5 (lim (m / 1000000000))) := World.ownsRow.kept (World.ownsRow.alloc HO5.out _) hgrow6 (by
          cases hv : Value.ownBlock v5 with
          | none => exact .inl rfl
          | some k => refine .inr ?_; intro e; have h1 := (HOG5.out.lt k e.symm).1; rw [HK5.out] at hv; have h2 := HLT.out; rw [show Value.ownBlock (.slice (some ⟨g, 0, none⟩) (lim m).length cap) = some g from rfl] at hv; simp at hv; omega)
        have e1 : ints acc ++ [Value.int .u32 ((val (lim m) : Int) % 1000000000)] = ints (acc ++ [m % UU]) := by rw [val_lim]; simp [ints, UU]
        rw [e1] at hown6
        have HOg : Hid (Own w6 w2.heap.size v6 (acc ++ [m % UU])) := by show World.ownsRow _ _ _ _ _ _ _; simpa using hown6
        have HB6 := hide ((HB5.out.alloc HB5.out.size (.cells #[.int .u32 ((val (lim m) : Int) % 1000000000)] 84)).grown hgrow6 (by have := HB5.out.size; simp; omega) (fun k hk => Nat.le_trans hws (HOG5.out.lt k hk).1))
        have HS6 : Hid (w2.heap.size ≤ w6.heap.size) := by have := hgrow6.size; simp at this; show _ ≤ _; omega
        clear hown6 hgrow6
        go_wp2
        go_roundw
        case rel => exact ⟨m / UU, acc ++ [m % UU], by rw [HG.out, grpR_pos (by omega)]; simp, grp_half HLEN.out rfl, HOr.out, HOg.out, fun k hk => by rw [HK5.out] at hk; exact hlt k hk, HB6.out, HS6.out⟩
        case measure => rw [HNUM.out, (HOr.out.nums (ok_lim _)).numOf, val_lim]; omega
end Go.Proofs.Ytgkibmigbjjnnaa

namespace Go.Proofs.Ytgkibmigbjjnnaa
open Go.RowKit Go.Shelf
attribute [local go_sem] Oper.semAt_some

/-- a digit -/
abbrev Dg := { x : Nat // x < 10 }

def digsD : Nat → Nat → List Dg
  | 0, g => [⟨g % 10, Nat.mod_lt _ (by decide)⟩]
  | k + 1, g => ⟨g / 10 ^ (k + 1) % 10, Nat.mod_lt _ (by decide)⟩ :: digsD k g
def toldD : List Nat → List Dg
  | [] => []
  | [t] => digsD (nd t) t
  | g :: h :: gs => toldD (h :: gs) ++ digsD 8 g

theorem digsD_val (k g : Nat) : (digsD k g).map (·.1) = digs k g := by
  induction k with
  | zero => rfl
  | succ k ih => simp only [digsD, digs, List.map_cons, ih]
theorem toldD_val : ∀ gs, (toldD gs).map (·.1) = told gs
  | [] => rfl
  | [t] => digsD_val _ _
  | g :: h :: gs => by rw [show toldD (g :: h :: gs) = toldD (h :: gs) ++ digsD 8 g from rfl, List.map_append, toldD_val, digsD_val]; rfl

/-- how many digits stand behind the first one of the group k -/
def jn (gs : List Nat) (k : Nat) : Nat := if k + 1 = gs.length then nd (lm gs k) else 8

theorem toldD_drop (gs : List Nat) (k : Nat) (h : k < gs.length) : toldD (gs.drop k) = toldD (gs.drop (k + 1)) ++ digsD (jn gs k) (lm gs k) := by
  rw [List.drop_eq_getElem_cons h, lm_get _ _ h]
  unfold jn
  by_cases e : k + 1 = gs.length
  · rw [if_pos e, List.drop_eq_nil_of_le (by omega), lm_get _ _ h]; simp [toldD]
  · rw [if_neg e]
    cases hd : gs.drop (k + 1) with
    | nil => have := List.drop_eq_nil_iff.1 hd; omega
    | cons a b => rfl

theorem digsD_pos (j g : Nat) : ∃ rest, digsD j g = ⟨g / pw j % 10, Nat.mod_lt _ (by decide)⟩ :: rest ∧ rest = (if j = 0 then [] else digsD (j - 1) g) := by
  cases j with
  | zero => exact ⟨_, by simp [digsD, pw], rfl⟩
  | succ j => exact ⟨_, rfl, by simp⟩

theorem pw_div (j : Nat) : pw j / 10 = if j = 0 then 0 else pw (j - 1) := by
  cases j with
  | zero => rfl
  | succ j => simp only [pw]; rw [pow_succ10]; simp
theorem pw_pos (j : Nat) : 0 < pw j := pow_pos10 j
theorem pw_le {j : Nat} (h : j ≤ 8) : pw j ≤ 100000000 := Nat.le_trans (Nat.pow_le_pow_right (by decide) h) (by decide)
theorem nd_le {g : Nat} (h : g < UU) : nd g ≤ 8 := by
  by_cases h8 : nd g ≤ 8
  · exact h8
  · have h9 : 10 ^ 9 ≤ 10 ^ nd g := Nat.pow_le_pow_right (by decide) (by omega)
    rcases (nd_spec g).2 with e | e
    · omega
    · have : (10 : Nat) ^ 9 = UU := by decide
      omega

/-- the blocks from lo to hi lie as they lay -/
def Keeps (lo hi : Nat) (W W' : World) : Prop := ∀ k, lo ≤ k → k < hi → W'.heap[k]? = W.heap[k]?
theorem Keeps.refl (lo hi : Nat) (W : World) : Keeps lo hi W W := fun _ _ _ => rfl
theorem Keeps.trans {lo hi : Nat} {A B C : World} (h : Keeps lo hi A B) (k : Keeps lo hi B C) : Keeps lo hi A C := fun i h1 h2 => (k i h1 h2).trans (h i h1 h2)
theorem Keeps.cell {lo hi : Nat} {W W' : World} (h : Keeps lo hi W W') {b o : Nat} (h1 : lo ≤ b) (h2 : b < hi) : W'.cell? ⟨b, o, none⟩ = W.cell? ⟨b, o, none⟩ := World.cell?_of_block (h b h1 h2)

theorem toldD_prefix (gs : List Nat) (k : Nat) (h : k ≤ gs.length) : toldD (gs.drop k) <+: toldD gs := by
  induction k with
  | zero => exact List.prefix_refl _
  | succ k ih => exact List.IsPrefix.trans ⟨_, (toldD_drop gs k (by omega)).symm⟩ (ih (by omega))

theorem digs_room {gs : List Nat} {k j : Nat} {pre rest : List Dg} (hk : k ≤ gs.length) (hp : pre ++ rest = toldD (gs.drop k)) (hr : rest = digsD j (lm gs k)) : pre.length < (toldD gs).length := by
  have h1 := (toldD_prefix gs k hk).length_le
  rw [← hp, List.length_append] at h1
  obtain ⟨r, e, _⟩ := digsD_pos j (lm gs k)
  rw [hr, e, List.length_cons] at h1
  omega

theorem digs_next {gs : List Nat} {k j u : Nat} {pre rest : List Dg} {x : Dg} (hj : j ≤ 8) (hp : pre ++ rest = toldD (gs.drop k)) (hu : u = pw j) (hr : rest = digsD j (lm gs k)) (hx : x.1 = lm gs k / u % 10) :
    ∃ (u' : Nat) (pre' rest' : List Dg), Value.int .u32 ((u : Int) / 10) = .int .u32 (u' : Nat) ∧ pre' ++ rest' = toldD (gs.drop k) ∧ ((u' = 0 ∧ rest' = []) ∨ ∃ j, j ≤ 8 ∧ u' = pw j ∧ rest' = digsD j (lm gs k)) ∧ pre' = pre ++ [x] := by
  obtain ⟨r, e, hr2⟩ := digsD_pos j (lm gs k)
  refine ⟨u / 10, pre ++ [x], r, by congr 1, ?_, ?_, rfl⟩
  · have : x = ⟨lm gs k / pw j % 10, Nat.mod_lt _ (by decide)⟩ := Subtype.ext (by rw [hx, hu])
    rw [← hp, hr, e, this]; simp
  · rw [hu, pw_div]
    by_cases h0 : j = 0
    · rw [if_pos h0] at hr2 ⊢; exact .inl ⟨rfl, hr2⟩
    · rw [if_neg h0] at hr2 ⊢; exact .inr ⟨j - 1, by omega, rfl, hr2⟩

theorem digs_pre {gs : List Nat} {k j u : Nat} {pre rest : List Dg} {x : Dg} (hk : k ≤ gs.length) (hp : pre ++ rest = toldD (gs.drop k)) (hu : u = pw j) (hr : rest = digsD j (lm gs k)) (hx : x.1 = lm gs k / u % 10) :
    pre ++ [x] <+: toldD gs := by
  obtain ⟨r, e, _⟩ := digsD_pos j (lm gs k)
  refine List.IsPrefix.trans ⟨r, ?_⟩ (toldD_prefix gs k hk)
  have : x = ⟨lm gs k / pw j % 10, Nat.mod_lt _ (by decide)⟩ := Subtype.ext (by rw [hx, hu])
  rw [← hp, hr, e, this]; simp

/-- the unit at which the group k - 1 is begun -/
def un (gs : List Nat) (k : Nat) : Nat := if k = gs.length then pw (nd (lm gs (k - 1))) else 100000000
theorem un_jn (gs : List Nat) (k : Nat) : un gs (k + 1) = pw (jn gs k) := by
  unfold un jn; split <;> rfl
theorem un_low (gs : List Nat) (k : Nat) (h : k < gs.length) : un gs k = 100000000 := by
  unfold un; rw [if_neg (by omega)]

set_option maxRecDepth 100000 in
set_option maxHeartbeats 400000 in
theorem digits_any (v : Value) (xs : List Nat) (w : World) (h : Nums w v xs) (b1 : xs.length ≤ 1000000000) :
    Calls Try.prog 40 #[v] w fun e w' => ∃ bx gv, e = .returned (.func (.func 74) #[] #[.pointer (some ⟨bx, 0, none⟩)]) ∧ w.heap.size ≤ bx ∧ bx < w'.heap.size ∧ w'.cell? ⟨bx, 0, none⟩ = some gv ∧ Own w' w.heap.size gv (grp (val xs)) ∧ Below w.heap.size w w' := by
  go_enter Try.func40, Try.ntmps40
  go_wp2_with fail
  refine (groupsOf_any _ _ _ h b1).mono ?_
  rintro e w1 ⟨v1, rfl, hO1, hb1⟩
  have HO := hide hO1
  rcases hO1.2 with ⟨rfl, h0⟩ | ⟨g, cap, cur, rfl, _, _, _, _, _, _⟩
  · exact absurd (List.eq_nil_of_length_eq_zero h0) (grp_ne _)
  · clear hO1
    go_wp2
    go_ret
    refine ⟨_, _, rfl, hb1.size, by simp, ?_, HO.out.alloc _, hb1.alloc hb1.size _⟩
    simp

set_option maxRecDepth 100000 in
set_option maxHeartbeats 2000000 in
theorem digits1_in (n : Nat) (hn : 1 ≤ n) (l bx lo hi b off cap : Nat) (gs : List Nat) (hg : ∀ x ∈ gs, x < UU) (hne : gs ≠ []) (hm : gs.length ≤ 9223372036854775807)
    (hx1 : lo ≤ bx) (hx2 : bx < hi) (hb1 : lo ≤ b) (hb2 : b < hi) (J Jx : List Dg → World → Prop)
    (hY : ∀ pre x W, J pre W → pre.length < (toldD gs).length → YieldAt Fence.wide (n - 1) Try.prog l #[.int .i64 (x.1 : Nat)] W fun e W' =>
      (e = .returned (.bool true) ∧ J (pre ++ [x]) W' ∧ Keeps lo hi W W') ∨ (e = .returned (.bool false) ∧ Jx (pre ++ [x]) W'))
    (W : World) (hBx : W.cell? ⟨bx, 0, none⟩ = some (.slice (some ⟨b, off, none⟩) gs.length cap)) (hc : ∀ i, i < gs.length → W.cell? ⟨b, off + i, none⟩ = some (.int .u32 (lm gs i : Nat))) (h0 : J [] W) :
    CallsIn Fence.wide n Try.prog 74 #[.func (.yield l) #[] #[], .pointer (some ⟨bx, 0, none⟩)] W fun e W' => (∃ v, e = .returned v) ∧
      ((∃ ys, ys = toldD gs ∧ J ys W') ∨ (∃ pre, pre <+: toldD gs ∧ Jx pre W')) := by
  have hlen : 0 < gs.length := by cases gs with | nil => exact absurd rfl hne | cons _ _ => simp
  have hgl : ∀ i, i < gs.length → lm gs i < UU := fun i hi => by rw [lm_get _ _ hi]; exact hg _ (List.getElem_mem hi)
  have HGL := hide hgl
  have HC := hide hc
  have HX := hide hY
  have hct := hc (gs.length - 1) (by omega)
  have htop := hgl (gs.length - 1) (by omega)
  have HTOP := hide htop
  unfold UU at htop
  clear hgl hc hY hg
  refine callsIn_of_wp Try.func74 rfl trivial ?_ rfl
  simp only [Try.ntmps74, List.size_toArray, List.length_cons, List.length_nil, Nat.reduceAdd, Nat.reduceSub, Array.replicate_succ, Array.replicate_zero, List.push_toArray, List.append_toArray, List.nil_append, List.cons_append]
  gi_wp2_with fail
  refine ⟨trivial, ?_⟩
  refine (callsIn_wide.2 (firstUnit_any _ _ HTOP.out)).mono ?_
  rintro e w1 ⟨rfl, rfl⟩
  gi_wp2
  gi_loopw [3, 4] (fun uv iv wr => ∃ k : Nat, k ≤ gs.length ∧ iv = .int .i64 ((k : Int) - 1) ∧ uv = .int .u32 (un gs k : Nat) ∧ J (toldD (gs.drop k)) wr ∧ Keeps lo hi W wr) (fun _ iv _ => (intOf iv + 1).toNat)
  case atStart => exact ⟨gs.length, Nat.le_refl _, rfl, by unfold un; rw [if_pos rfl], by rw [List.drop_length]; exact h0, Keeps.refl _ _ _⟩
  case round =>
    obtain ⟨k, hk, rfl, rfl, hJ, hK⟩ := hrel
    cases k with
    | zero =>
      gi_wp2
      go_end0
      exact ⟨⟨_, rfl⟩, .inl ⟨_, rfl, by simpa using hJ⟩⟩
    | succ k =>
      rw [show (((k + 1 : Nat) : Int) - 1) = (k : Int) from by omega]
      have HT := hide (toldD_drop gs k (by omega))
      have HU := hide (un_jn gs k)
      have HJ := hide hJ
      have hgk := HGL.out k (by omega)
      have HGK := hide hgk
      unfold UU at hgk
      clear hJ
      have hj8 : Hid (jn gs k ≤ 8) := by show _ ≤ _; unfold jn; split; exact nd_le HGK.out; exact Nat.le_refl _
      have HK := hide hK
      clear hK
      gi_wp2
      gi_loopw [3] (fun uv wi => ∃ (u : Nat) (pre rest : List Dg), uv = .int .u32 u ∧ pre ++ rest = toldD (gs.drop k) ∧ ((u = 0 ∧ rest = []) ∨ ∃ j, j ≤ 8 ∧ u = pw j ∧ rest = digsD j (lm gs k)) ∧ J pre wi ∧ Keeps lo hi W wi) (fun uv _ => (intOf uv).toNat)
      case atStart => exact ⟨_, _, _, rfl, HT.out.symm, .inr ⟨_, hj8.out, HU.out, rfl⟩, HJ.out, HK.out⟩
      case round =>
        obtain ⟨u, pre, rest, rfl, hpre, hcase, hJ, hK⟩ := hrel
        have HP := hide hpre
        clear hpre
        rcases hcase with ⟨rfl, rfl⟩ | ⟨j, hj, hu, hr⟩
        · have HJ2 := hide hJ
          have HK2 := hide hK
          clear hJ hK
          gi_wp2
          go_roundw
          case rel => exact ⟨k, by omega, by go_num, by rw [un_low gs k (by omega)]; rfl, by rw [← HP.out, List.append_nil]; exact HJ2.out, HK2.out⟩
          case measure => simp [intOf]
        · have hu1 : 1 ≤ u := by rw [hu]; exact pw_pos j
          have hu2 : u ≤ 100000000 := by rw [hu]; exact pw_le hj
          have HUJ := hide hu
          have HR := hide hr
          clear hu hr
          have hcb : W.cell? ⟨bx, 0, none⟩ = _ := hBx
          have hbx' := (hK.cell (o := 0) hx1 hx2).trans hBx
          have hck' := (hK.cell (o := off + k) hb1 hb2).trans (HC.out k (by omega))
          have hq0 : (0 : Int) ≤ (lm gs k : Int) / (u : Int) := by rw [← Int.natCast_ediv]; exact Int.natCast_nonneg _
          have hq1 : (lm gs k : Int) / (u : Int) ≤ 999999999 := by rw [← Int.natCast_ediv]; have := Nat.div_le_self (lm gs k) u; omega
          obtain ⟨fn, tmps, assign, body, hy, hRd⟩ := HX.out pre ⟨lm gs k / u % 10, Nat.mod_lt _ (by decide)⟩ _ hJ (digs_room (by omega) HP.out HR.out)
          have hd : ((lm gs k / u % 10 : Nat) : Int) = (lm gs k : Int) / (u : Int) % 10 := by rw [Int.natCast_emod, Int.natCast_ediv]; rfl
          dsimp only at hy
          rw [hd] at hy
          have HRD := hide hRd
          have HK2 := hide hK
          clear hRd hd hJ hK hcb
          gi_wp2
          refine HRD.out.mono ?_
          rintro e W3 (⟨rfl, hJ3, hk3⟩ | ⟨rfl, hJx3⟩)
          · have HJ3 := hide hJ3
            have HK3 := hide (HK2.out.trans hk3)
            clear hJ3 hk3 hy
            gi_wp2
            go_roundw
            case rel =>
              obtain ⟨u', pre', rest', e1, e2, e3, e4⟩ := digs_next (x := ⟨lm gs k / u % 10, Nat.mod_lt _ (by decide)⟩) hj HP.out HUJ.out HR.out rfl
              exact ⟨u', pre', rest', e1, e2, e3, by rw [e4]; exact HJ3.out, HK3.out⟩
            case measure => simp [intOf]; omega
          · clear hy
            gi_wp2
            refine bodyPost_ret (results_none rfl _ _ _) rfl ?_
            exact ⟨⟨_, rfl⟩, .inr ⟨_, digs_pre (by omega) HP.out HUJ.out HR.out rfl, hJx3⟩⟩
end Go.Proofs.Ytgkibmigbjjnnaa

namespace Go.Proofs.Ytgkibmigbjjnnaa
open Go.RowKit Go.Shelf
attribute [local go_sem] Oper.semAt_some

theorem digits_stops (n : Nat) (hn : 1 ≤ n) (bx lo hi base : Nat) (gv : Value) (gs : List Nat) (hg : ∀ x ∈ gs, x < UU) (hne : gs ≠ []) (w : World) (hO : Own w base gv gs) (hlo : lo ≤ base) (hhi : hi = w.heap.size)
    (hx1 : lo ≤ bx) (hx2 : bx < hi) (hc : w.cell? ⟨bx, 0, none⟩ = some gv) :
    SeqStopsK Fence.wide n Try.prog 74 #[.pointer (some ⟨bx, 0, none⟩)] (fun x : Dg => #[Value.int .i64 (x.1 : Nat)]) (Keeps lo hi) (fun ys => ys = toldD gs) (fun pre => pre <+: toldD gs) (toldD gs).length w := by
  intro l J Jx W hW _ _ hY h0
  have hN := hO.nums (fun x hx => Nat.lt_trans (hg x hx) (by decide))
  rcases hO.2 with ⟨rfl, h0'⟩ | ⟨g, cap, cur, rfl, hb, hgg, hnc, hcm, _, _⟩
  · exact absurd (List.eq_nil_of_length_eq_zero h0') hne
  · have hlt : g < w.heap.size := (Array.getElem?_eq_some_iff.1 hgg).1
    subst hhi
    refine digits1_in n hn l bx lo _ g 0 cap gs hg hne (by unfold maxLen at hcm; omega) hx1 hx2 (Nat.le_trans hlo hb) hlt J Jx hY W ((hW.cell (p := ⟨bx, 0, none⟩) hx2).trans hc) ?_ h0
    intro i hi
    rw [hW.cell (p := ⟨g, 0 + i, none⟩) hlt]
    rcases hN.cases with ⟨rfl, _⟩ | ⟨_, b, off, cap', he, _, _, _, hcc⟩
    · simp at hi
    · simp only [Value.slice.injEq, Option.some.injEq, Addr.mk.injEq, and_true, true_and] at he
      obtain ⟨⟨rfl, rfl⟩, rfl⟩ := he
      exact hcc i hi

/-- the bytes of digits -/
def byts (ds : List Nat) : List Int := ds.map fun (d : Nat) => (48 : Int) + (d : Int)
/-- a number's text -/
def txt (n : Nat) : ByteArray := strOfNums (byts (dec n))

theorem Try.info5 : (Try.prog.info? 5).map (fun i => (i.zero, i.size, i.bytes)) = some (some (.int .u8 0), 1, 1) := by kernel_rfl

/-- the cells of digits that have come -/
def bytV (pre : List Dg) : List Value := pre.map fun (x : Dg) => Value.int .u8 ((48 : Int) + (x.1 : Int))
theorem bytV_snoc (pre : List Dg) (x : Dg) : bytV pre ++ [.int .u8 ((48 : Int) + (x.1 : Int))] = bytV (pre ++ [x]) := by simp [bytV]
theorem byts_of (pre : List Dg) : byts (pre.map (·.1)) = pre.map fun (x : Dg) => (48 : Int) + (x.1 : Int) := by simp [byts]

theorem told_len (n : Nat) : (toldD (grp n)).map (·.1) = dec n := by rw [toldD_val, told_grp]

theorem digs_length (k n : Nat) : (digs k n).length = k + 1 := by
  induction k with
  | zero => rfl
  | succ k ih => simp [digs, ih]
theorem dec_length (n : Nat) : (dec n).length = nd n + 1 := digs_length _ _
theorem dec_bound {n k : Nat} (h : n < BB ^ k) : (dec n).length ≤ 32 * k + 1 := by
  rw [dec_length]
  rcases (nd_spec n).2 with e | e
  · omega
  · have h2 : BB ^ k = 2 ^ (32 * k) := by rw [Nat.pow_mul]; rfl
    have h3 : 2 ^ nd n ≤ 10 ^ nd n := Nat.pow_le_pow_left (by decide) _
    have : nd n < 32 * k := (Nat.pow_lt_pow_iff_right (a := 2) (by decide)).1 (by omega)
    omega

end Go.Proofs.Ytgkibmigbjjnnaa
