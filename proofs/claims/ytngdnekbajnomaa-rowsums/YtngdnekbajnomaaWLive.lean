/- swagelaw04.live: the one answer that the document fixes. -/
import Derived.Test.YtngdnekbajnomaaDivOwn
import Derived.Deep.RegionWith
import Derived.Test.YtngdnekbajnomaaNum
import Derived.RangeFuncBox
import Derived.RangeFuncLeaves
import Derived.RangeFuncNested
import Derived.Shelf.Abstract
import Derived.OwnWalkIn
import Derived.TacticsInMore
import Derived.LoopNIn
import Derived.LoopIn
import Derived.Maps.AppendAt
import Derived.Laws.BytesArg
import Derived.Test.YtngdnekbajnomaaIVar
import Derived.Test.YtngdnekbajnomaaWReck
import Derived.Test.YtngdnekbajnomaaShelf
namespace Go.Proofs.Ytngdnekbajnomaa
open Go.RowKit

theorem lim_len_pos {n : Nat} (h : 0 < n) : 0 < (lim n).length := by rw [lim_pos h]; simp

theorem Own.below {w w' : World} {base : Nat} {v : Value} {xs : List Nat} (h : Own w base v xs) (hb : Below w.heap.size w w') : Own w' base v xs := by
  unfold Own at *
  refine h.kept (row := none) ⟨hb.os, hb.tape, hb.output, hb.size, fun k hk _ => hb.block k hk⟩ ?_
  cases hv : v.ownBlock <;> simp



end Go.Proofs.Ytngdnekbajnomaa

namespace Go.Proofs.Ytngdnekbajnomaa

def UU : Nat := 1000000000

/-- the k + 1 low digits, the high one first -/
def digs : Nat → Nat → List Nat
  | 0, g => [g % 10]
  | k + 1, g => (g / 10 ^ (k + 1) % 10) :: digs k g

def ndF : Nat → Nat → Nat
  | 0, _ => 0
  | f + 1, n => if n < 10 then 0 else ndF f (n / 10) + 1

/-- how many digits stand behind the first one -/
def nd (n : Nat) : Nat := ndF n n

/-- a number's digits -/
def dec (n : Nat) : List Nat := digs (nd n) n

theorem pow_succ10 (k : Nat) : 10 ^ (k + 1) = 10 * 10 ^ k := by rw [Nat.pow_succ, Nat.mul_comm]
theorem pow_pos10 (k : Nat) : 0 < 10 ^ k := Nat.pow_pos (by decide)

theorem ndF_spec : ∀ f n, n ≤ f → n < 10 ^ (ndF f n + 1) ∧ (ndF f n = 0 ∨ 10 ^ ndF f n ≤ n) := by
  intro f
  induction f with
  | zero => intro n h; have : n = 0 := by omega
            subst this; simp [ndF]
  | succ f ih =>
    intro n h
    unfold ndF
    by_cases h1 : n < 10
    · rw [if_pos h1]; simp; exact h1
    · rw [if_neg h1]
      have hd : n / 10 ≤ f := by omega
      obtain ⟨h2, h3⟩ := ih (n / 10) hd
      refine ⟨?_, .inr ?_⟩
      · rw [pow_succ10]; omega
      · rw [pow_succ10]
        rcases h3 with h3 | h3
        · rw [h3]; simp; omega
        · omega

theorem nd_spec (n : Nat) : n < 10 ^ (nd n + 1) ∧ (nd n = 0 ∨ 10 ^ nd n ≤ n) := ndF_spec n n (Nat.le_refl _)

theorem nd_unique {n k : Nat} (h1 : n < 10 ^ (k + 1)) (h2 : k = 0 ∨ 10 ^ k ≤ n) : nd n = k := by
  obtain ⟨a, b⟩ := nd_spec n
  have mono : ∀ i j : Nat, i ≤ j → 10 ^ i ≤ 10 ^ j := fun i j h => Nat.pow_le_pow_right (by decide) h
  by_cases hlt : nd n < k
  · have := mono (nd n + 1) k hlt
    rcases h2 with h2 | h2 <;> omega
  · by_cases hgt : k < nd n
    · have := mono (k + 1) (nd n) hgt
      rcases b with b | b <;> omega
    · omega

theorem digs_mod (k m n : Nat) (h : k < m) : digs k (n % 10 ^ m) = digs k n := by
  induction k with
  | zero =>
    simp only [digs]
    obtain ⟨j, rfl⟩ : ∃ j, m = j + 1 := ⟨m - 1, by omega⟩
    rw [pow_succ10, Nat.mod_mul_right_mod]
  | succ k ih =>
    simp only [digs]
    rw [ih (by omega)]
    congr 1
    obtain ⟨j, rfl⟩ : ∃ j, m = (k + 1) + (j + 1) := ⟨m - (k + 1) - 1, by omega⟩
    rw [Nat.pow_add, Nat.mod_mul_right_div_self, pow_succ10 j, Nat.mod_mul_right_mod]

theorem digs_split (k n : Nat) : digs (k + 9) n = digs k (n / UU) ++ digs 8 (n % UU) := by
  have hU : UU = 10 ^ 9 := by decide
  induction k with
  | zero =>
    show digs 9 n = _
    rw [show digs 9 n = (n / 10 ^ 9 % 10) :: digs 8 n from rfl, hU, digs_mod 8 9 n (by decide)]
    rfl
  | succ k ih =>
    rw [show k + 1 + 9 = (k + 9) + 1 from by omega]
    rw [show digs (k + 9 + 1) n = (n / 10 ^ (k + 9 + 1) % 10) :: digs (k + 9) n from rfl, show digs (k + 1) (n / UU) = (n / UU / 10 ^ (k + 1) % 10) :: digs k (n / UU) from rfl]
    rw [ih, List.cons_append]
    congr 2
    rw [hU, Nat.div_div_eq_div_mul, ← Nat.pow_add]
    congr 2; omega

def grpF : Nat → Nat → List Nat
  | 0, n => [n]
  | f + 1, n => if n < UU then [n] else (n % UU) :: grpF f (n / UU)

/-- a number's groups, the low one first -/
def grp (n : Nat) : List Nat := grpF n n

theorem grpF_enough : ∀ f g n, n ≤ f → n ≤ g → grpF f n = grpF g n := by
  intro f
  induction f with
  | zero => intro g n h1 h2; have : n = 0 := by omega
            subst this; cases g <;> simp [grpF, UU]
  | succ f ih =>
    intro g n h1 h2
    by_cases h : n < UU
    · cases g <;> simp [grpF, h]
    · cases g with
      | zero => unfold UU at h; omega
      | succ g =>
        simp only [grpF, h, if_false]
        have hd : n / UU < n := Nat.div_lt_self (by unfold UU at h; omega) (by decide)
        rw [ih g (n / UU) (by omega) (by omega)]

theorem grp_low {n : Nat} (h : n < UU) : grp n = [n] := by
  unfold grp; cases n <;> simp [grpF]; intro h'; omega
theorem grp_high {n : Nat} (h : ¬ n < UU) : grp n = (n % UU) :: grp (n / UU) := by
  have hd : n / UU < n := Nat.div_lt_self (by unfold UU at h; omega) (by decide)
  unfold grp
  cases n with
  | zero => unfold UU at h; omega
  | succ m =>
    simp only [grpF, h, if_false]
    rw [grpF_enough m ((m + 1) / UU) ((m + 1) / UU) (by omega) (Nat.le_refl _)]

/-- the groups behind the first one, of what is left -/
def grpR (n : Nat) : List Nat := if n = 0 then [] else grp n
theorem grp_eq (n : Nat) : grp n = (n % UU) :: grpR (n / UU) := by
  unfold grpR
  by_cases h : n < UU
  · rw [grp_low h, Nat.mod_eq_of_lt h, Nat.div_eq_of_lt h]; rfl
  · rw [grp_high h, if_neg]
    have := Nat.div_pos (Nat.le_of_not_lt h) (show 0 < UU by decide)
    omega
theorem grpR_pos {n : Nat} (h : 0 < n) : grpR n = (n % UU) :: grpR (n / UU) := by
  rw [← grp_eq]; unfold grpR; rw [if_neg (by omega)]
theorem grpR_zero : grpR 0 = [] := rfl

theorem grp_lt (n : Nat) : ∀ x ∈ grp n, x < UU := by
  refine Nat.strongRecOn n (fun n ih => ?_)
  by_cases h : n < UU
  · rw [grp_low h]; intro x hx; simp at hx; omega
  · rw [grp_high h]; intro x hx
    rcases List.mem_cons.1 hx with rfl | hx
    · exact Nat.mod_lt _ (by decide)
    · exact ih (n / UU) (Nat.div_lt_self (by unfold UU at h; omega) (by decide)) x hx
theorem grp_ne (n : Nat) : grp n ≠ [] := by rw [grp_eq]; simp

/-- what is told of groups: the last one without noughts ahead, the others nine digits each -/
def told : List Nat → List Nat
  | [] => []
  | [t] => digs (nd t) t
  | g :: h :: gs => told (h :: gs) ++ digs 8 g

theorem nd_high {n : Nat} (h : ¬ n < UU) : nd n = nd (n / UU) + 9 := by
  have hU : UU = 10 ^ 9 := by decide
  obtain ⟨a, b⟩ := nd_spec (n / UU)
  refine nd_unique ?_ (.inr ?_)
  · rw [Nat.div_lt_iff_lt_mul (by decide), hU, ← Nat.pow_add] at a
    rw [show nd (n / UU) + 9 + 1 = nd (n / UU) + 1 + 9 from by omega]; exact a
  · rcases b with b | b
    · rw [b]; show 10 ^ 9 ≤ n; rw [← hU]; omega
    · rw [Nat.le_div_iff_mul_le (by decide), hU, ← Nat.pow_add] at b; exact b

theorem told_grp (n : Nat) : told (grp n) = dec n := by
  refine Nat.strongRecOn n (fun n ih => ?_)
  by_cases h : n < UU
  · rw [grp_low h]; rfl
  · have := ih (n / UU) (Nat.div_lt_self (by unfold UU at h; omega) (by decide))
    rw [grp_high h]
    have e : told (n % UU :: grp (n / UU)) = told (grp (n / UU)) ++ digs 8 (n % UU) := by
      cases hg : grp (n / UU) with
      | nil => exact absurd hg (grp_ne _)
      | cons a b => rfl
    rw [e, this]
    unfold dec
    rw [nd_high h, digs_split]

end Go.Proofs.Ytngdnekbajnomaa

namespace Go.Proofs.Ytngdnekbajnomaa
open Go.RowKit

/-- a power of ten -/
def pw (k : Nat) : Nat := 10 ^ k

theorem unit_next {g u k : Nat} (hu : u = 10 ^ k) (h : 10 ≤ g / u) : u * 10 = 10 ^ (k + 1) ∧ 10 ^ (k + 1) ≤ g := by
  subst hu
  have hp := pow_pos10 k
  have := (Nat.le_div_iff_mul_le hp).1 h
  rw [pow_succ10]; exact ⟨by omega, by omega⟩
theorem unit_last {g u k : Nat} (hu : u = 10 ^ k) (hk : k = 0 ∨ 10 ^ k ≤ g) (h : ¬ 10 ≤ g / u) : nd g = k := by
  subst hu
  have hp := pow_pos10 k
  refine nd_unique ?_ hk
  rw [pow_succ10]
  have : g / 10 ^ k < 10 := by omega
  rw [Nat.div_lt_iff_lt_mul hp] at this; omega

set_option maxRecDepth 100000 in
set_option maxHeartbeats 400000 in
theorem firstUnit_any (g : Nat) (w : World) (hg : g < UU) :
    Calls Try.prog 65 #[.int .u32 g] w fun e w' => e = .returned (.int .u32 (pw (nd g) : Nat)) ∧ w = w' := by
  have HG := hide hg
  unfold UU at hg
  go_enter Try.func65, Try.ntmps65
  go_wp2
  go_loop [3] (fun t => ∃ k u : Nat, Hid (u = 10 ^ k) ∧ (k = 0 ∨ 10 ^ k ≤ g) ∧ 1 ≤ u ∧ t = .int .u32 u ∧ u ≤ 100000000) (fun t => 100000000 - (intOf t).toNat)
  case atStart => exact ⟨0, 1, rfl, .inl rfl, Nat.le_refl _, rfl, by omega⟩
  case round =>
    obtain ⟨k, u, hu, hk, h1, rfl, h2⟩ := hrel
    have HK := hide hk
    clear hk
    have hq0 : (0 : Int) ≤ (g : Int) / (u : Int) := by rw [← Int.natCast_ediv]; exact Int.natCast_nonneg _
    have hq1 : (g : Int) / (u : Int) ≤ 999999999 := by rw [← Int.natCast_ediv]; have := Nat.div_le_self g u; omega
    by_cases hc : 10 ≤ g / u
    · have hcI : (10 : Int) ≤ (g : Int) / (u : Int) := by rw [← Int.natCast_ediv]; omega
      obtain ⟨e1, e2⟩ := unit_next hu.out hc
      have hle : u * 10 ≤ 100000000 := by
        rw [e1]
        rcases Nat.lt_or_ge (k + 1) 9 with hk9 | hk9
        · exact Nat.le_trans (Nat.pow_le_pow_right (by decide) (show k + 1 ≤ 8 by omega)) (by decide)
        · have : 10 ^ 9 ≤ 10 ^ (k + 1) := Nat.pow_le_pow_right (by decide) hk9
          have : (10 : Nat) ^ 9 = 1000000000 := by decide
          omega
      have HE1 := hide e1
      have HE2 := hide e2
      clear e1 e2 hc
      go_wp2
      go_round
      case rel => exact ⟨k + 1, u * 10, HE1, .inr HE2.out, by omega, by go_num, hle⟩
      case measure => simp [intOf]; omega
    · have hcI : ¬ (10 : Int) ≤ (g : Int) / (u : Int) := by rw [← Int.natCast_ediv]; omega
      have HN := hide (unit_last hu.out HK.out hc)
      clear hc
      go_wp2
      go_ret
      exact ⟨by unfold pw; rw [HN.out, ← hu.out]; rfl, rfl⟩

theorem Own.alloc {w : World} {base : Nat} {v : Value} {xs : List Nat} (h : Own w base v xs) (o : Obj) : Own (w.alloc o) base v xs := World.ownsRow.alloc h o

theorem Own.mono {w : World} {base base' : Nat} {v : Value} {xs : List Nat} (h : Own w base v xs) (hb : base' ≤ base) : Own w base' v xs := by
  unfold Own at *
  refine ⟨h.1, ?_⟩
  rcases h.2 with h2 | ⟨g, cap, cur, hv, hg, r⟩
  · exact .inl h2
  · exact .inr ⟨g, cap, cur, hv, Nat.le_trans hb hg, r⟩

theorem ok_grp (n : Nat) : Ok (grp n) := fun x hx => Nat.lt_trans (grp_lt n x hx) (by decide)

theorem Own.lt {w : World} {base : Nat} {v : Value} {xs : List Nat} (h : Own w base v xs) : ∀ k, v.ownBlock = some k → base ≤ k ∧ k < w.heap.size := World.ownsRow.lt h

theorem lit_own (w : World) (base n : Nat) (x : Int) (hx : x = n) (hb : base ≤ w.heap.size) : Own (w.alloc (.cells #[.int .u32 x] 63)) base (.slice (some ⟨w.heap.size, 0, none⟩) 1 1) [n] := by
  subst hx
  exact World.ownsRow_lit w #[.int .u32 (n : Int)] 1 hb (by simp [maxLen]) rfl

theorem grp_count {m l n k : Nat} (h : m * 2 ^ l ≤ n) (hm : 0 < m) (hn : n < BB ^ k) : l < 32 * k := by
  have h1 : 2 ^ l ≤ n := Nat.le_trans (Nat.le_mul_of_pos_left _ hm) h
  have h2 : BB ^ k = 2 ^ (32 * k) := by rw [Nat.pow_mul]; rfl
  rw [h2] at hn
  exact (Nat.pow_lt_pow_iff_right (by decide)).1 (Nat.lt_of_le_of_lt h1 hn)
theorem grp_half {m l n x : Nat} {acc : List Nat} (h : m * 2 ^ acc.length ≤ n) (hl : l = (acc ++ [x]).length) : m / UU * 2 ^ l ≤ n := by
  subst hl
  rw [List.length_append, List.length_singleton, Nat.pow_succ, Nat.mul_comm (2 ^ acc.length) 2, ← Nat.mul_assoc]
  exact Nat.le_trans (Nat.mul_le_mul_right _ (by unfold UU; omega)) h

set_option maxRecDepth 100000 in
set_option maxHeartbeats 1000000 in
theorem groupsOf_any (v : Value) (xs : List Nat) (w : World) (h : Nums w v xs) (b1 : xs.length ≤ 1000000000) :
    Calls Try.prog 63 #[v] w fun e w' => ∃ v', e = .returned v' ∧ Own w' w.heap.size v' (grp (val xs)) ∧ Below w.heap.size w w' := by
  obtain ⟨i0, hi, hz0, hz1, hz2⟩ := info_parts Try.info63
  have HVL := hide (val_lt h.ok)
  go_enter Try.func63, Try.ntmps63
  go_wp2_with fail
  refine (norm_any _ xs _ h b1).mono ?_
  rintro e w1 ⟨v1, rfl, hO1, _, hb1⟩
  clear h
  go_wp2_with fail
  refine (divideOwn_any _ _ 1000000000 _ _ hO1 (ok_lim _) (by omega) (by omega)).mono ?_
  rintro e w2 ⟨v2, rfl, hO2, hb2, _, hk2⟩
  clear hO1
  rw [val_lim] at hO2
  go_wp2_with fail
  have hO3 : Own (w2.alloc (.cells #[.int .u32 ((val (lim (val xs)) : Int) % 1000000000)] 63)) w2.heap.size (.slice (some ⟨w2.heap.size, 0, none⟩) 1 1) [val xs % UU] := lit_own _ _ _ _ (by rw [val_lim]; unfold UU; omega) (Nat.le_refl _)
  have hO2' := hO2.alloc (.cells #[.int .u32 ((val (lim (val xs)) : Int) % 1000000000)] 63)
  have hlt2 : ∀ k, v2.ownBlock = some k → k < w2.heap.size := fun k hk => (hO2.lt k hk).2
  have hB2 : Below w.heap.size w (w2.alloc (.cells #[.int .u32 ((val (lim (val xs)) : Int) % 1000000000)] 63)) := (hb1.trans hb2).alloc (hb1.trans hb2).size _
  have hsz : w2.heap.size ≤ (w2.alloc (.cells #[.int .u32 ((val (lim (val xs)) : Int) % 1000000000)] 63)).heap.size := by simp
  have hws := (hb1.trans hb2).size
  have hlen0 : val xs / UU * 2 ^ [val xs % UU].length ≤ val xs := by simp; unfold UU; omega
  clear hO2 hb1 hb2 hk2
  generalize hW : w2.alloc (.cells #[.int .u32 ((val (lim (val xs)) : Int) % 1000000000)] 63) = w3 at *
  clear hW
  go_loopw [3, 5] (fun rv gv wr => ∃ (m : Nat) (acc : List Nat), grp (val xs) = acc ++ grpR m ∧ m * 2 ^ acc.length ≤ val xs ∧ Own wr w.heap.size rv (lim m) ∧ Own wr w2.heap.size gv acc ∧ (∀ k, rv.ownBlock = some k → k < w2.heap.size) ∧ Below w.heap.size w wr ∧ w2.heap.size ≤ wr.heap.size) (fun rv _ wr => numOf wr rv)
  case atStart => exact ⟨val xs / UU, [val xs % UU], grp_eq _, hlen0, hO2', hO3, hlt2, hB2, hsz⟩
  case round =>
    clear hlen0 hO2' hO3 hlt2 hB2 hsz
    obtain ⟨m, acc, hgrp, hlen, hOr, hOg, hlt, hbel, hsz⟩ := hrel
    have HG := hide hgrp
    have HLEN := hide hlen
    clear hgrp hlen
    by_cases hm : m = 0
    · subst hm
      rw [lim_zero] at hOr
      rcases hOr.2 with ⟨rfl, h0⟩ | ⟨g, cap, cur, rfl, _, _, _, _, _, _⟩
      all_goals
        go_wp2
        go_ret
        have e : grp (val xs) = acc := by rw [HG.out, grpR_zero, List.append_nil]
        exact ⟨_, rfl, by rw [e]; exact hOg.mono hws, hbel⟩
    · have hpos : 0 < (lim m).length := lim_len_pos (by omega)
      have hnum := (hOr.nums (ok_lim m)).numOf
      rw [val_lim] at hnum
      have HNUM := hide hnum
      have HO := hide hOr
      have HOG := hide hOg
      rcases hOr.2 with ⟨rfl, h0⟩ | ⟨g, cap, cur, rfl, _, _, hnc, hcm, _, _⟩
      · omega
      · clear hOr hOg hnum
        have HLT := hide (hlt g rfl)
        unfold maxLen at hcm
        go_wp2_with fail
        refine (divideOwn_any _ _ 1000000000 _ _ HO.out (ok_lim _) (by omega) (by omega)).mono ?_
        rintro e w5 ⟨v5, rfl, hO5, hb5, hg5, hk5⟩
        rw [val_lim] at hO5
        have hOg5 : Own w5 w2.heap.size _ acc := World.ownsRow.kept HOG.out hg5 (by
          cases hv : Value.ownBlock _ with
          | none => exact .inl rfl
          | some k => refine .inr ?_; intro e; have h1 := (HOG.out.lt k hv).1; have h2 := HLT.out; rw [show Value.ownBlock (.slice (some ⟨g, 0, none⟩) (lim m).length cap) = some g from rfl] at e; simp at e; omega)
        have HOG5 := hide hOg5
        have HO5 := hide hO5
        have hsz5 : w2.heap.size ≤ w5.heap.size := Nat.le_trans hsz hg5.size
        have HB5 := hide (hbel.trans hb5)
        have HK5 := hide hk5
        clear hb5 hg5 hOg5 hO5 hk5 hbel
        go_wp2_with (at_builtin; refine wpList_append_own _ rfl _ _ 23 rfl w2.heap.size 63 i0 (.int .u32 0) 1 4 Try.underlying23 hi hz0 hz1 hz2 rfl (by decide) _ _ _ rfl (World.ownsRow.alloc HOG5.out _) ⟨w5.heap.size, 0, none⟩ 1 1 [.int .u32 ((val (lim m) : Int) % 1000000000)] rfl rfl ?c1 ?c2 ?c3 ?c4 ?c5 ?_)
        case c1 =>
          intro j u hj
          match j, hj with
          | 0, hj => simp at hj; subst hj; simp [Addr.add]
        case c2 => intro u hu; simp at hu; subst hu; rfl
        case c3 => have := grp_count HLEN.out (by omega) HVL.out; unfold maxLen; omega
        case c4 => have := grp_count HLEN.out (by omega) HVL.out; omega
        case c5 => simp; omega
        intro v6 w6 hown6 hgrow6 _
        have HOr : Hid (Own w6 w.heap.size v5 (lim (m / 1000000000))) := World.ownsRow.kept (World.ownsRow.alloc HO5.out _) hgrow6 (by
          cases hv : Value.ownBlock v5 with
          | none => exact .inl rfl
          | some k => refine .inr ?_; intro e; have h1 := (HOG5.out.lt k e.symm).1; rw [HK5.out] at hv; have h2 := HLT.out; rw [show Value.ownBlock (.slice (some ⟨g, 0, none⟩) (lim m).length cap) = some g from rfl] at hv; simp at hv; omega)
        have e1 : ints acc ++ [Value.int .u32 ((val (lim m) : Int) % 1000000000)] = ints (acc ++ [m % UU]) := by rw [val_lim]; simp [ints, UU]
        rw [e1] at hown6
        have HOg : Hid (Own w6 w2.heap.size v6 (acc ++ [m % UU])) := by show World.ownsRow _ _ _ _ _ _ _; simpa using hown6
        have HB6 := hide ((HB5.out.alloc HB5.out.size (.cells #[.int .u32 ((val (lim m) : Int) % 1000000000)] 63)).grown hgrow6 (by have := HB5.out.size; simp; omega) (fun k hk => Nat.le_trans hws (HOG5.out.lt k hk).1))
        have HS6 : Hid (w2.heap.size ≤ w6.heap.size) := by have := hgrow6.size; simp at this; show _ ≤ _; omega
        clear hown6 hgrow6
        go_wp2
        go_roundw
        case rel => exact ⟨m / UU, acc ++ [m % UU], by rw [HG.out, grpR_pos (by omega)]; simp, grp_half HLEN.out rfl, HOr.out, HOg.out, fun k hk => by rw [HK5.out] at hk; exact hlt k hk, HB6.out, HS6.out⟩
        case measure => rw [HNUM.out, (HOr.out.nums (ok_lim _)).numOf, val_lim]; omega
end Go.Proofs.Ytngdnekbajnomaa

namespace Go.Proofs.Ytngdnekbajnomaa
open Go.RowKit Go.Shelf
attribute [local go_sem] Oper.semAt_some

/-- a digit -/
abbrev Dg := { x : Nat // x < 10 }

def digsD : Nat → Nat → List Dg
  | 0, g => [⟨g % 10, Nat.mod_lt _ (by decide)⟩]
  | k + 1, g => ⟨g / 10 ^ (k + 1) % 10, Nat.mod_lt _ (by decide)⟩ :: digsD k g
def toldD : List Nat → List Dg
  | [] => []
  | [t] => digsD (nd t) t
  | g :: h :: gs => toldD (h :: gs) ++ digsD 8 g

theorem digsD_val (k g : Nat) : (digsD k g).map (·.1) = digs k g := by
  induction k with
  | zero => rfl
  | succ k ih => simp only [digsD, digs, List.map_cons, ih]
theorem toldD_val : ∀ gs, (toldD gs).map (·.1) = told gs
  | [] => rfl
  | [t] => digsD_val _ _
  | g :: h :: gs => by rw [show toldD (g :: h :: gs) = toldD (h :: gs) ++ digsD 8 g from rfl, List.map_append, toldD_val, digsD_val]; rfl

/-- how many digits stand behind the first one of the group k -/
def jn (gs : List Nat) (k : Nat) : Nat := if k + 1 = gs.length then nd (lm gs k) else 8

theorem toldD_drop (gs : List Nat) (k : Nat) (h : k < gs.length) : toldD (gs.drop k) = toldD (gs.drop (k + 1)) ++ digsD (jn gs k) (lm gs k) := by
  rw [List.drop_eq_getElem_cons h, lm_get _ _ h]
  unfold jn
  by_cases e : k + 1 = gs.length
  · rw [if_pos e, List.drop_eq_nil_of_le (by omega), lm_get _ _ h]; simp [toldD]
  · rw [if_neg e]
    cases hd : gs.drop (k + 1) with
    | nil => have := List.drop_eq_nil_iff.1 hd; omega
    | cons a b => rfl

theorem digsD_pos (j g : Nat) : ∃ rest, digsD j g = ⟨g / pw j % 10, Nat.mod_lt _ (by decide)⟩ :: rest ∧ rest = (if j = 0 then [] else digsD (j - 1) g) := by
  cases j with
  | zero => exact ⟨_, by simp [digsD, pw], rfl⟩
  | succ j => exact ⟨_, rfl, by simp⟩

theorem pw_div (j : Nat) : pw j / 10 = if j = 0 then 0 else pw (j - 1) := by
  cases j with
  | zero => rfl
  | succ j => simp only [pw]; rw [pow_succ10]; simp
theorem pw_pos (j : Nat) : 0 < pw j := pow_pos10 j
theorem pw_le {j : Nat} (h : j ≤ 8) : pw j ≤ 100000000 := Nat.le_trans (Nat.pow_le_pow_right (by decide) h) (by decide)
theorem nd_le {g : Nat} (h : g < UU) : nd g ≤ 8 := by
  by_cases h8 : nd g ≤ 8
  · exact h8
  · have h9 : 10 ^ 9 ≤ 10 ^ nd g := Nat.pow_le_pow_right (by decide) (by omega)
    rcases (nd_spec g).2 with e | e
    · omega
    · have : (10 : Nat) ^ 9 = UU := by decide
      omega

/-- the blocks from lo to hi lie as they lay -/
def Keeps (lo hi : Nat) (W W' : World) : Prop := ∀ k, lo ≤ k → k < hi → W'.heap[k]? = W.heap[k]?
theorem Keeps.refl (lo hi : Nat) (W : World) : Keeps lo hi W W := fun _ _ _ => rfl
theorem Keeps.trans {lo hi : Nat} {A B C : World} (h : Keeps lo hi A B) (k : Keeps lo hi B C) : Keeps lo hi A C := fun i h1 h2 => (k i h1 h2).trans (h i h1 h2)
theorem Keeps.cell {lo hi : Nat} {W W' : World} (h : Keeps lo hi W W') {b o : Nat} (h1 : lo ≤ b) (h2 : b < hi) : W'.cell? ⟨b, o, none⟩ = W.cell? ⟨b, o, none⟩ := World.cell?_of_block (h b h1 h2)

theorem toldD_prefix (gs : List Nat) (k : Nat) (h : k ≤ gs.length) : toldD (gs.drop k) <+: toldD gs := by
  induction k with
  | zero => exact List.prefix_refl _
  | succ k ih => exact List.IsPrefix.trans ⟨_, (toldD_drop gs k (by omega)).symm⟩ (ih (by omega))

theorem digs_room {gs : List Nat} {k j : Nat} {pre rest : List Dg} (hk : k ≤ gs.length) (hp : pre ++ rest = toldD (gs.drop k)) (hr : rest = digsD j (lm gs k)) : pre.length < (toldD gs).length := by
  have h1 := (toldD_prefix gs k hk).length_le
  rw [← hp, List.length_append] at h1
  obtain ⟨r, e, _⟩ := digsD_pos j (lm gs k)
  rw [hr, e, List.length_cons] at h1
  omega

theorem digs_next {gs : List Nat} {k j u : Nat} {pre rest : List Dg} {x : Dg} (hj : j ≤ 8) (hp : pre ++ rest = toldD (gs.drop k)) (hu : u = pw j) (hr : rest = digsD j (lm gs k)) (hx : x.1 = lm gs k / u % 10) :
    ∃ (u' : Nat) (pre' rest' : List Dg), Value.int .u32 ((u : Int) / 10) = .int .u32 (u' : Nat) ∧ pre' ++ rest' = toldD (gs.drop k) ∧ ((u' = 0 ∧ rest' = []) ∨ ∃ j, j ≤ 8 ∧ u' = pw j ∧ rest' = digsD j (lm gs k)) ∧ pre' = pre ++ [x] := by
  obtain ⟨r, e, hr2⟩ := digsD_pos j (lm gs k)
  refine ⟨u / 10, pre ++ [x], r, by congr 1, ?_, ?_, rfl⟩
  · have : x = ⟨lm gs k / pw j % 10, Nat.mod_lt _ (by decide)⟩ := Subtype.ext (by rw [hx, hu])
    rw [← hp, hr, e, this]; simp
  · rw [hu, pw_div]
    by_cases h0 : j = 0
    · rw [if_pos h0] at hr2 ⊢; exact .inl ⟨rfl, hr2⟩
    · rw [if_neg h0] at hr2 ⊢; exact .inr ⟨j - 1, by omega, rfl, hr2⟩

theorem digs_pre {gs : List Nat} {k j u : Nat} {pre rest : List Dg} {x : Dg} (hk : k ≤ gs.length) (hp : pre ++ rest = toldD (gs.drop k)) (hu : u = pw j) (hr : rest = digsD j (lm gs k)) (hx : x.1 = lm gs k / u % 10) :
    pre ++ [x] <+: toldD gs := by
  obtain ⟨r, e, _⟩ := digsD_pos j (lm gs k)
  refine List.IsPrefix.trans ⟨r, ?_⟩ (toldD_prefix gs k hk)
  have : x = ⟨lm gs k / pw j % 10, Nat.mod_lt _ (by decide)⟩ := Subtype.ext (by rw [hx, hu])
  rw [← hp, hr, e, this]; simp

/-- the unit at which the group k - 1 is begun -/
def un (gs : List Nat) (k : Nat) : Nat := if k = gs.length then pw (nd (lm gs (k - 1))) else 100000000
theorem un_jn (gs : List Nat) (k : Nat) : un gs (k + 1) = pw (jn gs k) := by
  unfold un jn; split <;> rfl
theorem un_low (gs : List Nat) (k : Nat) (h : k < gs.length) : un gs k = 100000000 := by
  unfold un; rw [if_neg (by omega)]

set_option maxRecDepth 100000 in
set_option maxHeartbeats 400000 in
theorem digits_any (v : Value) (xs : List Nat) (w : World) (h : Nums w v xs) (b1 : xs.length ≤ 1000000000) :
    Calls Try.prog 58 #[v] w fun e w' => ∃ bx gv, e = .returned (.func (.func 64) #[] #[.pointer (some ⟨bx, 0, none⟩)]) ∧ w.heap.size ≤ bx ∧ bx < w'.heap.size ∧ w'.cell? ⟨bx, 0, none⟩ = some gv ∧ Own w' w.heap.size gv (grp (val xs)) ∧ Below w.heap.size w w' := by
  go_enter Try.func58, Try.ntmps58
  go_wp2_with fail
  refine (groupsOf_any _ _ _ h b1).mono ?_
  rintro e w1 ⟨v1, rfl, hO1, hb1⟩
  have HO := hide hO1
  rcases hO1.2 with ⟨rfl, h0⟩ | ⟨g, cap, cur, rfl, _, _, _, _, _, _⟩
  · exact absurd (List.eq_nil_of_length_eq_zero h0) (grp_ne _)
  · clear hO1
    go_wp2
    go_ret
    refine ⟨_, _, rfl, hb1.size, by simp, ?_, HO.out.alloc _, hb1.alloc hb1.size _⟩
    simp

set_option maxRecDepth 100000 in
set_option maxHeartbeats 2000000 in
theorem digits1_in (n : Nat) (hn : 1 ≤ n) (l bx lo hi b off cap : Nat) (gs : List Nat) (hg : ∀ x ∈ gs, x < UU) (hne : gs ≠ []) (hm : gs.length ≤ 9223372036854775807)
    (hx1 : lo ≤ bx) (hx2 : bx < hi) (hb1 : lo ≤ b) (hb2 : b < hi) (J Jx : List Dg → World → Prop)
    (hY : ∀ pre x W, J pre W → pre.length < (toldD gs).length → YieldAt Fence.wide (n - 1) Try.prog l #[.int .i64 (x.1 : Nat)] W fun e W' =>
      (e = .returned (.bool true) ∧ J (pre ++ [x]) W' ∧ Keeps lo hi W W') ∨ (e = .returned (.bool false) ∧ Jx (pre ++ [x]) W'))
    (W : World) (hBx : W.cell? ⟨bx, 0, none⟩ = some (.slice (some ⟨b, off, none⟩) gs.length cap)) (hc : ∀ i, i < gs.length → W.cell? ⟨b, off + i, none⟩ = some (.int .u32 (lm gs i : Nat))) (h0 : J [] W) :
    CallsIn Fence.wide n Try.prog 64 #[.func (.yield l) #[] #[], .pointer (some ⟨bx, 0, none⟩)] W fun e W' => (∃ v, e = .returned v) ∧
      ((∃ ys, ys = toldD gs ∧ J ys W') ∨ (∃ pre, pre <+: toldD gs ∧ Jx pre W')) := by
  have hlen : 0 < gs.length := by cases gs with | nil => exact absurd rfl hne | cons _ _ => simp
  have hgl : ∀ i, i < gs.length → lm gs i < UU := fun i hi => by rw [lm_get _ _ hi]; exact hg _ (List.getElem_mem hi)
  have HGL := hide hgl
  have HC := hide hc
  have HX := hide hY
  have hct := hc (gs.length - 1) (by omega)
  have htop := hgl (gs.length - 1) (by omega)
  have HTOP := hide htop
  unfold UU at htop
  clear hgl hc hY hg
  refine callsIn_of_wp Try.func64 rfl trivial ?_ rfl
  simp only [Try.ntmps64, List.size_toArray, List.length_cons, List.length_nil, Nat.reduceAdd, Nat.reduceSub, Array.replicate_succ, Array.replicate_zero, List.push_toArray, List.append_toArray, List.nil_append, List.cons_append]
  gi_wp2_with fail
  refine ⟨trivial, ?_⟩
  refine (callsIn_wide.2 (firstUnit_any _ _ HTOP.out)).mono ?_
  rintro e w1 ⟨rfl, rfl⟩
  gi_wp2
  gi_loopw [3, 4] (fun uv iv wr => ∃ k : Nat, k ≤ gs.length ∧ iv = .int .i64 ((k : Int) - 1) ∧ uv = .int .u32 (un gs k : Nat) ∧ J (toldD (gs.drop k)) wr ∧ Keeps lo hi W wr) (fun _ iv _ => (intOf iv + 1).toNat)
  case atStart => exact ⟨gs.length, Nat.le_refl _, rfl, by unfold un; rw [if_pos rfl], by rw [List.drop_length]; exact h0, Keeps.refl _ _ _⟩
  case round =>
    obtain ⟨k, hk, rfl, rfl, hJ, hK⟩ := hrel
    cases k with
    | zero =>
      gi_wp2
      go_end0
      exact ⟨⟨_, rfl⟩, .inl ⟨_, rfl, by simpa using hJ⟩⟩
    | succ k =>
      rw [show (((k + 1 : Nat) : Int) - 1) = (k : Int) from by omega]
      have HT := hide (toldD_drop gs k (by omega))
      have HU := hide (un_jn gs k)
      have HJ := hide hJ
      have hgk := HGL.out k (by omega)
      have HGK := hide hgk
      unfold UU at hgk
      clear hJ
      have hj8 : Hid (jn gs k ≤ 8) := by show _ ≤ _; unfold jn; split; exact nd_le HGK.out; exact Nat.le_refl _
      have HK := hide hK
      clear hK
      gi_wp2
      gi_loopw [3] (fun uv wi => ∃ (u : Nat) (pre rest : List Dg), uv = .int .u32 u ∧ pre ++ rest = toldD (gs.drop k) ∧ ((u = 0 ∧ rest = []) ∨ ∃ j, j ≤ 8 ∧ u = pw j ∧ rest = digsD j (lm gs k)) ∧ J pre wi ∧ Keeps lo hi W wi) (fun uv _ => (intOf uv).toNat)
      case atStart => exact ⟨_, _, _, rfl, HT.out.symm, .inr ⟨_, hj8.out, HU.out, rfl⟩, HJ.out, HK.out⟩
      case round =>
        obtain ⟨u, pre, rest, rfl, hpre, hcase, hJ, hK⟩ := hrel
        have HP := hide hpre
        clear hpre
        rcases hcase with ⟨rfl, rfl⟩ | ⟨j, hj, hu, hr⟩
        · have HJ2 := hide hJ
          have HK2 := hide hK
          clear hJ hK
          gi_wp2
          go_roundw
          case rel => exact ⟨k, by omega, by go_num, by rw [un_low gs k (by omega)]; rfl, by rw [← HP.out, List.append_nil]; exact HJ2.out, HK2.out⟩
          case measure => simp [intOf]
        · have hu1 : 1 ≤ u := by rw [hu]; exact pw_pos j
          have hu2 : u ≤ 100000000 := by rw [hu]; exact pw_le hj
          have HUJ := hide hu
          have HR := hide hr
          clear hu hr
          have hcb : W.cell? ⟨bx, 0, none⟩ = _ := hBx
          have hbx' := (hK.cell (o := 0) hx1 hx2).trans hBx
          have hck' := (hK.cell (o := off + k) hb1 hb2).trans (HC.out k (by omega))
          have hq0 : (0 : Int) ≤ (lm gs k : Int) / (u : Int) := by rw [← Int.natCast_ediv]; exact Int.natCast_nonneg _
          have hq1 : (lm gs k : Int) / (u : Int) ≤ 999999999 := by rw [← Int.natCast_ediv]; have := Nat.div_le_self (lm gs k) u; omega
          obtain ⟨fn, tmps, assign, body, hy, hRd⟩ := HX.out pre ⟨lm gs k / u % 10, Nat.mod_lt _ (by decide)⟩ _ hJ (digs_room (by omega) HP.out HR.out)
          have hd : ((lm gs k / u % 10 : Nat) : Int) = (lm gs k : Int) / (u : Int) % 10 := by rw [Int.natCast_emod, Int.natCast_ediv]; rfl
          dsimp only at hy
          rw [hd] at hy
          have HRD := hide hRd
          have HK2 := hide hK
          clear hRd hd hJ hK hcb
          gi_wp2
          refine HRD.out.mono ?_
          rintro e W3 (⟨rfl, hJ3, hk3⟩ | ⟨rfl, hJx3⟩)
          · have HJ3 := hide hJ3
            have HK3 := hide (HK2.out.trans hk3)
            clear hJ3 hk3 hy
            gi_wp2
            go_roundw
            case rel =>
              obtain ⟨u', pre', rest', e1, e2, e3, e4⟩ := digs_next (x := ⟨lm gs k / u % 10, Nat.mod_lt _ (by decide)⟩) hj HP.out HUJ.out HR.out rfl
              exact ⟨u', pre', rest', e1, e2, e3, by rw [e4]; exact HJ3.out, HK3.out⟩
            case measure => simp [intOf]; omega
          · clear hy
            gi_wp2
            refine bodyPost_ret (results_none rfl _ _ _) rfl ?_
            exact ⟨⟨_, rfl⟩, .inr ⟨_, digs_pre (by omega) HP.out HUJ.out HR.out rfl, hJx3⟩⟩
end Go.Proofs.Ytngdnekbajnomaa

namespace Go.Proofs.Ytngdnekbajnomaa
open Go.RowKit Go.Shelf
attribute [local go_sem] Oper.semAt_some

theorem boxed_app {W w1 : World} {n₀ B lo T : Nat} {t e : TypeId} {size : Nat} {v v' : Value} {k m : Nat} {xs ys : List Value} {tmp : Obj}
    (hv : Boxed W B t v) (hte : t ≠ e) (hrow : W.ownsRow n₀ e size v k xs) (hn₀ : n₀ ≤ W.heap.size) (hB : B < lo) (hT : T ≤ B) (hTn : T ≤ n₀)
    (hown' : w1.ownsRow n₀ e size v' m ys) (hgrow : (W.alloc tmp).grownBy w1 v.ownBlock) :
    Boxed w1 B t v ∧ Boxed (w1.setCell ⟨B, 0, none⟩ v') B t v' ∧ (w1.setCell ⟨B, 0, none⟩ v').ownsRow n₀ e size v' m ys ∧ KeepsOthers W (w1.setCell ⟨B, 0, none⟩ v') ∧ Keeps lo n₀ W (w1.setCell ⟨B, 0, none⟩ v') ∧ Below T W (w1.setCell ⟨B, 0, none⟩ v') := by
  have hv1 : Boxed w1 B t v := (hv.alloc tmp).kept hgrow (hv.not_row hte hrow)
  have hge : ∀ j, v.ownBlock = some j → n₀ ≤ j := fun j ej => (hrow.lt j ej).1
  refine ⟨hv1, hv1.set v', hown'.kept (grownBy_setCell' w1 B v') (.inr (hv1.not_row hte hown').symm), ?_, ?_, ?_⟩
  · refine ((KeepsOthers.alloc W tmp).trans (KeepsOthers.of_grownBy hgrow fun j o ej hj => ?_)).trans (KeepsOthers.setCell _ _ _)
    rcases (hrow.alloc tmp).2 with ⟨rfl, _⟩ | ⟨g, cap, cur, rfl, _, hgb, _⟩
    · simp [Value.ownBlock] at ej
    · obtain rfl : g = j := by simpa [Value.ownBlock] using ej
      rw [hgb] at hj; cases hj; rfl
  · intro i h1 h2
    rw [Below.heap_setCell _ _ _ _ (by show i ≠ B; omega), hgrow.block i (by simp; omega) (fun e' => by have := hge i e'.symm; omega), Below.heap_alloc _ _ _ (by omega)]
  · exact (((Below.refl T W).alloc (by omega) tmp).grown hgrow (by simp; omega) (fun j ej => Nat.le_trans hTn (hge j ej))).setCell (p := ⟨B, 0, none⟩) hT v'

theorem digits_stops (n : Nat) (hn : 1 ≤ n) (bx lo hi base : Nat) (gv : Value) (gs : List Nat) (hg : ∀ x ∈ gs, x < UU) (hne : gs ≠ []) (w : World) (hO : Own w base gv gs) (hlo : lo ≤ base) (hhi : hi = w.heap.size)
    (hx1 : lo ≤ bx) (hx2 : bx < hi) (hc : w.cell? ⟨bx, 0, none⟩ = some gv) :
    SeqStopsK Fence.wide n Try.prog 64 #[.pointer (some ⟨bx, 0, none⟩)] (fun x : Dg => #[Value.int .i64 (x.1 : Nat)]) (Keeps lo hi) (fun ys => ys = toldD gs) (fun pre => pre <+: toldD gs) (toldD gs).length w := by
  intro l J Jx W hW _ _ hY h0
  have hN := hO.nums (fun x hx => Nat.lt_trans (hg x hx) (by decide))
  rcases hO.2 with ⟨rfl, h0'⟩ | ⟨g, cap, cur, rfl, hb, hgg, hnc, hcm, _, _⟩
  · exact absurd (List.eq_nil_of_length_eq_zero h0') hne
  · have hlt : g < w.heap.size := (Array.getElem?_eq_some_iff.1 hgg).1
    subst hhi
    refine digits1_in n hn l bx lo _ g 0 cap gs hg hne (by unfold maxLen at hcm; omega) hx1 hx2 (Nat.le_trans hlo hb) hlt J Jx hY W ((hW.cell (p := ⟨bx, 0, none⟩) hx2).trans hc) ?_ h0
    intro i hi
    rw [hW.cell (p := ⟨g, 0 + i, none⟩) hlt]
    rcases hN.cases with ⟨rfl, _⟩ | ⟨_, b, off, cap', he, _, _, _, hcc⟩
    · simp at hi
    · simp only [Value.slice.injEq, Option.some.injEq, Addr.mk.injEq, and_true, true_and] at he
      obtain ⟨⟨rfl, rfl⟩, rfl⟩ := he
      exact hcc i hi

/-- the bytes of digits -/
def byts (ds : List Nat) : List Int := ds.map fun (d : Nat) => (48 : Int) + (d : Int)
/-- a number's text -/
def txt (n : Nat) : ByteArray := strOfNums (byts (dec n))

theorem Try.info5 : (Try.prog.info? 5).map (fun i => (i.zero, i.size, i.bytes)) = some (some (.int .u8 0), 1, 1) := by kernel_rfl

/-- the cells of digits that have come -/
def bytV (pre : List Dg) : List Value := pre.map fun (x : Dg) => Value.int .u8 ((48 : Int) + (x.1 : Int))
theorem bytV_length (pre : List Dg) : (bytV pre).length = pre.length := by simp [bytV]
theorem bytV_snoc (pre : List Dg) (x : Dg) : bytV pre ++ [.int .u8 ((48 : Int) + (x.1 : Int))] = bytV (pre ++ [x]) := by simp [bytV]
theorem byts_of (pre : List Dg) : byts (pre.map (·.1)) = pre.map fun (x : Dg) => (48 : Int) + (x.1 : Int) := by simp [byts]

theorem told_len (n : Nat) : (toldD (grp n)).map (·.1) = dec n := by rw [toldD_val, told_grp]

theorem digs_length (k n : Nat) : (digs k n).length = k + 1 := by
  induction k with
  | zero => rfl
  | succ k ih => simp [digs, ih]
theorem dec_length (n : Nat) : (dec n).length = nd n + 1 := digs_length _ _
theorem dec_bound {n k : Nat} (h : n < BB ^ k) : (dec n).length ≤ 32 * k + 1 := by
  rw [dec_length]
  rcases (nd_spec n).2 with e | e
  · omega
  · have h2 : BB ^ k = 2 ^ (32 * k) := by rw [Nat.pow_mul]; rfl
    have h3 : 2 ^ nd n ≤ 10 ^ nd n := Nat.pow_le_pow_left (by decide) _
    have : nd n < 32 * k := (Nat.pow_lt_pow_iff_right (a := 2) (by decide)).1 (by omega)
    omega

end Go.Proofs.Ytngdnekbajnomaa

namespace Go.Proofs.Ytngdnekbajnomaa
open Go.RowKit Go.Shelf
attribute [local go_sem] Oper.semAt_some

/-- an append within a fence: where the new row lies -/
theorem wpListIn_append_at {F : Fence} {n : Nat} {P : Program} (w : World) {ops : Array Oper} {rest : List Oper} {o : Oper} {a : Act} {Q : Exit → Act → World → Prop}
    (hg : o.guard = none) (s x : Operand) (t : TypeId) (hop : o.op = Op.call { callee := Callee.builtin Builtin.append, args := #[s, x], argTypes := #[t, t] })
    (base : Nat) (e : TypeId) (i : TypeInfo) (z : Value) (size bytes : Nat) (h1 : P.underlying t = some (.slice e)) (h2 : P.info? e = some i) (h3 : i.zero = some z) (h4 : i.size = size) (h5 : i.bytes = bytes) (h6 : z.cells.size = size) (h7 : 0 < size)
    (v : Value) (k : Nat) (xs : List Value) (hs : a.eval s = v) (hown : w.ownsRow base e size v k xs) (ad : Addr) (m c : Nat) (news : List Value) (hx : a.eval x = .slice (some ad) m c) (hn : news.length = m * size)
    (hc : ∀ j u, news[j]? = some u → w.cell? (ad.add j) = some u) (h1c : ∀ u ∈ news, u.oneCell' = true) (b1 : k + m ≤ maxLen) (b2 : (k + m) * bytes ≤ 140737488355328) (b3 : base ≤ w.heap.size)
    (hK : ∀ v' w', w'.ownsRow base e size v' (k + m) (xs ++ news) → w.grownBy w' v.ownBlock → (v'.ownBlock = v.ownBlock ∨ v'.ownBlock = some w.heap.size) → wpListIn F n P ops Q rest (a.put o.dst v') w') :
    wpListIn F n P ops Q (o :: rest) a w := by
  refine wpListIn_plain hg fun K hK' => ?_
  obtain ⟨v', w', hrun, r1, r2, _, r4⟩ := run_append_own_at (P := P) w base t o.type e i z size bytes h1 h2 h3 h4 h5 h6 h7 v k xs hown ad m c news hn hc h1c b1 b2 b3
  unfold Oper.wpIn
  refine ⟨?_, ?_⟩
  · simp [Oper.about, hop, resolve, Target.leads, Sem.run_pure]
  · rw [Oper.semAt_plain F _ _ (by rw [hop]; intro c hc'; cases hc')]
    simp [execOp, hop, resolve, invoke, builtin, hs, hx, hrun, Result.andThen]
    exact hK' _ _ (hK v' w' r1 r2 r4)

/-- the row lies below lo or from hi on -/
def AsideV (lo hi : Nat) (v : Value) : Prop := ∀ j, v.ownBlock = some j → j < lo ∨ hi ≤ j

theorem boxed_app2 {W w1 : World} {n₀ B lo hi T : Nat} {t e : TypeId} {size : Nat} {v v' : Value} {k m : Nat} {xs ys : List Value} {tmp : Obj}
    (hv : Boxed W B t v) (hte : t ≠ e) (hrow : W.ownsRow n₀ e size v k xs) (hhi : hi ≤ W.heap.size) (hB : B < lo) (hT : T ≤ B) (hTn : T ≤ n₀) (hap : AsideV lo hi v) (hbl : v'.ownBlock = v.ownBlock ∨ v'.ownBlock = some (W.alloc tmp).heap.size)
    (hown' : w1.ownsRow n₀ e size v' m ys) (hgrow : (W.alloc tmp).grownBy w1 v.ownBlock) :
    Boxed w1 B t v ∧ Boxed (w1.setCell ⟨B, 0, none⟩ v') B t v' ∧ (w1.setCell ⟨B, 0, none⟩ v').ownsRow n₀ e size v' m ys ∧ KeepsOthers W (w1.setCell ⟨B, 0, none⟩ v') ∧ Keeps lo hi W (w1.setCell ⟨B, 0, none⟩ v') ∧ Below T W (w1.setCell ⟨B, 0, none⟩ v') ∧ AsideV lo hi v' := by
  have hv1 : Boxed w1 B t v := (hv.alloc tmp).kept hgrow (hv.not_row hte hrow)
  have hge : ∀ j, v.ownBlock = some j → n₀ ≤ j := fun j ej => (hrow.lt j ej).1
  refine ⟨hv1, hv1.set v', hown'.kept (grownBy_setCell' w1 B v') (.inr (hv1.not_row hte hown').symm), ?_, ?_, ?_, ?_⟩
  · refine ((KeepsOthers.alloc W tmp).trans (KeepsOthers.of_grownBy hgrow fun j o ej hj => ?_)).trans (KeepsOthers.setCell _ _ _)
    rcases (hrow.alloc tmp).2 with ⟨rfl, _⟩ | ⟨g, cap, cur, rfl, _, hgb, _⟩
    · simp [Value.ownBlock] at ej
    · obtain rfl : g = j := by simpa [Value.ownBlock] using ej
      rw [hgb] at hj; cases hj; rfl
  · intro i h1 h2
    rw [Below.heap_setCell _ _ _ _ (by show i ≠ B; omega), hgrow.block i (by simp; omega) (fun e' => by have := hap i e'.symm; omega), Below.heap_alloc _ _ _ (by omega)]
  · exact (((Below.refl T W).alloc (by have := hv.lt; omega) tmp).grown hgrow (by have := hv.lt; simp; omega) (fun j ej => Nat.le_trans hTn (hge j ej))).setCell (p := ⟨B, 0, none⟩) hT v'
  · intro j ej
    rcases hbl with h | h
    · exact hap j (by rw [← h]; exact ej)
    · rw [h] at ej; simp at ej; right; omega

/-- a number's text -/
def itxt (z : Int) : ByteArray := strOfNums ((if z < 0 then [45] else []) ++ byts (dec z.natAbs))
theorem itxt_pos (n : Nat) : Ending.returned (.string (strOfNums (byts (dec n)))) = .returned (.string (itxt (sg false n))) := by
  unfold itxt; rw [sg_abs, if_neg (by simp)]; rfl
theorem itxt_neg (n : Nat) (h : n ≠ 0) : Ending.returned (.string (strOfNums ([(45 : Int)] ++ byts (dec n)))) = .returned (.string (itxt (sg true n))) := by
  unfold itxt; rw [sg_abs, if_pos (by simp; omega)]
theorem zeroCells_size1 (z : Value) (k : Nat) : (Builtin.zeroCells #[z] k).size = k := by simp [Builtin.zeroCells]

theorem ownsRow_below {w w' : World} {base : Nat} {e : TypeId} {size : Nat} {v : Value} {k : Nat} {xs : List Value} (h : w.ownsRow base e size v k xs) (hb : Below w.heap.size w w') : w'.ownsRow base e size v k xs := by
  refine ⟨h.1, ?_⟩
  rcases h.2 with h0 | ⟨g', cap', cur, e, hg, hh, r⟩
  · exact .inl h0
  · refine .inr ⟨g', cap', cur, e, hg, ?_, r⟩
    rw [hb.block g' (Array.getElem?_eq_some_iff.1 hh).1]; exact hh

set_option maxRecDepth 100000 in
set_option maxHeartbeats 4000000 in
theorem itext_any (v : Value) (z : Int) (w : World) (h : IntAt w v z) (b1 : (lim z.natAbs).length ≤ 1000000000) :
    Calls Try.prog 47 #[v] w fun e w' => e = .returned (.string (itxt z)) ∧ Below w.heap.size w w' := by
  obtain ⟨i0, hi, hz0, hz1, hz2⟩ := info_parts Try.info5
  obtain ⟨b, n, a, c, rfl, hn, rfl, h0⟩ := h
  rw [sg_abs] at b1
  have HN := hide hn
  have H0 := hide h0
  have HDB := hide (dec_bound (val_lt (ok_lim n)))
  rw [val_lim] at HDB
  clear hn h0
  refine (callsIn_wide (n := 3)).1 ?_
  refine callsIn_of_wp_marks Try.func47 rfl trivial ?_ rfl
  simp only [Try.ntmps47, List.size_toArray, List.length_cons, List.length_nil, Nat.reduceAdd, Nat.reduceSub, Array.replicate_succ, Array.replicate_zero, List.push_toArray, List.append_toArray, List.nil_append, List.cons_append]
  have HL : Hid ((toldD (grp n)).length = (dec n).length) := by show _ = _; rw [← told_len, List.length_map]
  have hlenB : (toldD (grp n)).length ≤ 32000000001 := by have := HL.out; have := HDB.out; omega
  cases b with
  | false =>
    have HX : Hid (Box ((w.alloc (.cells #[.bool false, .slice a (lim n).length c] 36)).alloc (.cells #[.slice none 0 0] 88)) w.heap.size (.bool false) (.slice a (lim n).length c) ∧ Below w.heap.size w ((w.alloc (.cells #[.bool false, .slice a (lim n).length c] 36)).alloc (.cells #[.slice none 0 0] 88))) := hide ⟨(Box.new _ _ _).step (below_alloc _ _), (below_alloc _ _).trans ((below_alloc _ _).mono (by simp))⟩
    have bT0 : Hid (Boxed ((w.alloc (.cells #[.bool false, .slice a (lim n).length c] 36)).alloc (.cells #[.slice none 0 0] 88)) (w.heap.size + 1) 88 (.slice none 0 0)) := hide (by have := Boxed.new (w.alloc (.cells #[.bool false, .slice a (lim n).length c] 36)) 88 (.slice none 0 0); rwa [World.size_alloc] at this)
    gi_wp2_with fail
    refine ⟨trivial, ?_⟩
    have ST : Hid (∃ rv, rv = Value.slice none 0 0 ∧ Boxed ((w.alloc (.cells #[.bool false, .slice a (lim n).length c] 36)).alloc (.cells #[.slice none 0 0] 88)) (w.heap.size + 1) 88 rv ∧ ((w.alloc (.cells #[.bool false, .slice a (lim n).length c] 36)).alloc (.cells #[.slice none 0 0] 88)).ownsRow (w.heap.size + 1 + 1) 5 1 rv 0 []) := hide ⟨_, rfl, bT0.out, World.ownsRow_nil _ _ _ _⟩
    have HS1 : Hid (((w.alloc (.cells #[.bool false, .slice a (lim n).length c] 36)).alloc (.cells #[.slice none 0 0] 88)).heap.size = w.heap.size + 1 + 1) := hide (by simp)
    generalize hW1 : ((w.alloc (.cells #[.bool false, .slice a (lim n).length c] 36)).alloc (.cells #[.slice none 0 0] 88)) = W1 at *
    clear hW1 bT0
    obtain ⟨rv, rfl, bT, hrow0⟩ := ST.out
    clear ST
    replace HN := hide (HN.out.below HX.out.2)
    refine (callsIn_wide.2 (digits_any _ (lim n) _ HN.out b1)).mono ?_
    rintro e w2 ⟨bx, gv, rfl, hx1, hx2, hcx, hO, hb2⟩
    rw [val_lim] at hO
    have hsz := hb2.size
    have bT2 : Boxed w2 (w.heap.size + 1) 88 (.slice none 0 0) := (hb2.block _ bT.lt).trans bT
    have hrow2 : w2.ownsRow (w.heap.size + 1 + 1) 5 1 (.slice none 0 0) 0 [] := ownsRow_below hrow0 hb2
    have hB0 : Below w.heap.size w w2 := HX.out.2.trans (hb2.mono (by have := HX.out.2.size; omega))
    have hs1 := HS1.out
    have hap : AsideV W1.heap.size w2.heap.size (.slice none 0 0) := fun j hj => .inl (hrow0.lt j hj).2
    clear hrow0 bT HX
    gi_wp2_with fail
    refine wpIn_rangeFunc_ownG rfl (by omega) (gf := 64) (lb := #[.pointer (some ⟨bx, 0, none⟩)]) rfl trivial (enters_of Try.func64 (by kernel_rfl) rfl)
      (digits_stops 2 (by omega) bx W1.heap.size w2.heap.size W1.heap.size gv (grp n) (grp_lt _) (grp_ne _) w2 hO (Nat.le_refl _) rfl hx1 hx2 hcx) Keeps.trans
      (fun W l o o' hl _ _ _ k _ h2 => by rw [World.putObj_heap_other (by omega)]) (Below.refl _ _) (fun _ => rfl)
      (fun pre W => (∃ v, Boxed W (w.heap.size + 1) 88 v ∧ W.ownsRow (w.heap.size + 1 + 1) 5 1 v (pre.length) (bytV pre) ∧ AsideV W1.heap.size w2.heap.size v) ∧ Below w.heap.size w W ∧ w2.heap.size ≤ W.heap.size)
      (fun _ _ _ => False)
      (OwnFrom.and (Go.Own.from (holdsRow_own (w.heap.size + 1 + 1) (w.heap.size + 1) 88 5 1 (fun pre => pre.length) (fun pre => bytV pre) (fun _ v => AsideV W1.heap.size w2.heap.size v)) _) (OwnFrom.and (ownFrom_below (by omega) (by omega)) (fun _ _ _ _ hs hg _ => Nat.le_trans hs hg.size)))
      (fun _ _ _ _ _ hs _ _ => hs)
      ⟨⟨_, bT2, hrow2, hap⟩, hB0, Nat.le_refl _⟩
      (fun x => { tmps := #[.agg #[.bool false, .slice a (lim n).length c], .pointer (some ⟨w.heap.size, 0, none⟩), .string { data := #[] }, .pointer (some ⟨w.heap.size + 1, 0, none⟩), .int .i64 (x.1 : Nat), .pointer (some ⟨w.heap.size, 0, none⟩), .bool false, undef, undef, undef, .pointer (some ⟨w.heap.size, 1, none⟩), .slice a (lim n).length c, .func (.func 64) #[] #[.pointer (some ⟨bx, 0, none⟩)], .int .i64 (x.1 : Nat), undef, undef, undef, undef, undef, undef, undef, undef], defers := [] }) ?assign ?body ?done ?stop
    case assign =>
      intro l x W K hK
      gi_wp2
      exact hK
    case body =>
      rintro l pre x W ⟨⟨v, hv, hrow, hap⟩, hB, hS⟩ hlt
      have hc := hv.cell
      have hx := x.2
      gi_wp2_with (gi_at_builtin; refine wpListIn_append_at _ rfl _ _ 88 rfl (w.heap.size + 1 + 1) 5 i0 (.int .u8 0) 1 1 Try.underlying88 hi hz0 hz1 hz2 rfl (by decide) _ _ _ rfl (hrow.alloc _) ⟨W.heap.size, 0, none⟩ 1 1 [.int .u8 ((48 : Int) + (x.1 : Int))] rfl rfl (cell_one_new _ _ _) (by simp [Value.oneCell']) (by unfold maxLen; omega) (by omega) (by simp; omega) ?_; intro v' w1 hown' hgrow hbl; obtain ⟨g', cap', rfl⟩ := ownsRow_succ hown'; obtain ⟨hv1, hv2, hr2, hk2, hkk2, hb2, hap2⟩ := boxed_app2 (lo := W1.heap.size) (hi := w2.heap.size) (T := w.heap.size) hv (by decide) hrow hS (by omega) (by omega) (by omega) hap hbl hown' hgrow; have hc1 := hv1.cell; have hf1 := hv1.frozen)
      refine ⟨hk2.from _, hkk2, ⟨⟨_, hv2, ?_, hap2⟩, hB.trans hb2, ?_⟩⟩
      · rw [bytV_snoc] at hr2; simpa using hr2
      · have := hgrow.size; simp at this; simp [World.setCell]; omega
    case done =>
      rintro D ys W hD rfl ⟨⟨v, hv, hrow, _⟩, hB, hS⟩ hK
      have hne : (toldD (grp n)).length ≠ 0 := by rw [HL.out, dec_length]; omega
      have hD' : w.heap.size ≤ D := by omega
      rcases hrow.2 with ⟨_, h0⟩ | ⟨g, cap, cur, rfl, _, hgg, _, _, hcs, ht⟩
      · exact absurd h0 (by omega)
      · have hc := hv.cell
        have e1 : (toldD (grp n)).map (fun (x : Dg) => (48 : Int) + (x.1 : Int)) = byts (dec n) := by rw [← byts_of, told_len]
        have hconv := run_convert_bytes_arg (P := Try.prog) W 88 5 Try.underlying88 Try.underlying5 g 0 ((toldD (grp n)).length) cap (byts (dec n)) (by rw [← e1]; simp) (by
          intro i hi
          rw [show 0 + i = i from by omega, hrow.cellAt i (by omega), ← e1]
          simp [bytV, hi]
          ) 9 Try.underlying9
        clear e1 hne
        gi_wp2
        refine ⟨by simp, .inl ⟨_, _, rfl, run_takeDeferred hK, ?_⟩⟩
        exact ⟨_, results_tmp rfl _ _ _, (by refine Eq.trans ?_ (itxt_pos n); rfl), hB.trans (belowK_b (w := w) (Nat.le_refl _) W D _ _ hD' hK rfl rfl)⟩
    case stop =>
      rintro D c pre W _ _ h _
      exact h.elim
  | true =>
    have HX : Hid (Box ((w.alloc (.cells #[.bool true, .slice a (lim n).length c] 36)).alloc (.cells #[.slice none 0 0] 88)) w.heap.size (.bool true) (.slice a (lim n).length c) ∧ Below w.heap.size w ((w.alloc (.cells #[.bool true, .slice a (lim n).length c] 36)).alloc (.cells #[.slice none 0 0] 88))) := hide ⟨(Box.new _ _ _).step (below_alloc _ _), (below_alloc _ _).trans ((below_alloc _ _).mono (by simp))⟩
    have bT0 : Hid (Boxed ((w.alloc (.cells #[.bool true, .slice a (lim n).length c] 36)).alloc (.cells #[.slice none 0 0] 88)) (w.heap.size + 1) 88 (.slice none 0 0)) := hide (by have := Boxed.new (w.alloc (.cells #[.bool true, .slice a (lim n).length c] 36)) 88 (.slice none 0 0); rwa [World.size_alloc] at this)
    gi_wp2_with fail
    refine ⟨trivial, ?_⟩
    have HCP : Hid (1 ≤ ((Question.appendCap 1 0 5).cut (w.tape w.drawn (Question.appendCap 1 0 5))) ∧ ((Question.appendCap 1 0 5).cut (w.tape w.drawn (Question.appendCap 1 0 5))) ≤ maxLen) := hide ⟨Nat.le_add_right _ _, by have := Nat.mod_lt (w.tape w.drawn (Question.appendCap 1 0 5)) (show 0 < 2 ^ 63 - 1 by decide); simp only [Question.cut, maxLen]; omega⟩
    generalize ((Question.appendCap 1 0 5).cut (w.tape w.drawn (Question.appendCap 1 0 5))) = cp at *
    replace HX : Hid (Box ((((w.alloc (.cells #[.bool true, .slice a (lim n).length c] 36)).alloc (.cells #[.slice (some ⟨w.heap.size + 1 + 1 + 1, 0, none⟩) 1 cp] 88)).alloc (.cells #[.int .u8 45] 5)).alloc (.cells (#[.int .u8 45] ++ Builtin.zeroCells #[.int .u8 0] (cp - 1)) 5)).drew w.heap.size (.bool true) (.slice a (lim n).length c) ∧ Below w.heap.size w ((((w.alloc (.cells #[.bool true, .slice a (lim n).length c] 36)).alloc (.cells #[.slice (some ⟨w.heap.size + 1 + 1 + 1, 0, none⟩) 1 cp] 88)).alloc (.cells #[.int .u8 45] 5)).alloc (.cells (#[.int .u8 45] ++ Builtin.zeroCells #[.int .u8 0] (cp - 1)) 5)).drew) := hide ⟨((((Box.new _ _ _).step (below_alloc _ _)).step (below_alloc _ _)).step (below_alloc _ _)).drew, ((((below_alloc _ _).trans ((below_alloc _ _).mono (by simp))).trans ((below_alloc _ _).mono (by simp; omega))).trans ((below_alloc _ _).mono (by simp; omega))).drew⟩
    have bT : Boxed ((((w.alloc (.cells #[.bool true, .slice a (lim n).length c] 36)).alloc (.cells #[.slice (some ⟨w.heap.size + 1 + 1 + 1, 0, none⟩) 1 cp] 88)).alloc (.cells #[.int .u8 45] 5)).alloc (.cells (#[.int .u8 45] ++ Builtin.zeroCells #[.int .u8 0] (cp - 1)) 5)).drew (w.heap.size + 1) 88 (.slice (some ⟨w.heap.size + 1 + 1 + 1, 0, none⟩) 1 cp) := by
      have h1 := Boxed.new (w.alloc (.cells #[.bool true, .slice a (lim n).length c] 36)) 88 (.slice (some ⟨w.heap.size + 1 + 1 + 1, 0, none⟩) 1 cp)
      rw [World.size_alloc] at h1
      exact (h1.alloc _).alloc _
    have hrow0 : World.ownsRow ((((w.alloc (.cells #[.bool true, .slice a (lim n).length c] 36)).alloc (.cells #[.slice (some ⟨w.heap.size + 1 + 1 + 1, 0, none⟩) 1 cp] 88)).alloc (.cells #[.int .u8 45] 5)).alloc (.cells (#[.int .u8 45] ++ Builtin.zeroCells #[.int .u8 0] (cp - 1)) 5)).drew (w.heap.size + 1 + 1) 5 1 (.slice (some ⟨w.heap.size + 1 + 1 + 1, 0, none⟩) 1 cp) 1 [.int .u8 45] := by
      refine ⟨rfl, .inr ⟨_, cp, #[.int .u8 45] ++ Builtin.zeroCells #[.int .u8 0] (cp - 1), rfl, by omega, ?_, HCP.out.1, HCP.out.2, ?_, ?_⟩⟩
      · have := heap_alloc_new (((w.alloc (.cells #[.bool true, .slice a (lim n).length c] 36)).alloc (.cells #[.slice (some ⟨w.heap.size + 1 + 1 + 1, 0, none⟩) 1 cp] 88)).alloc (.cells #[.int .u8 45] 5)) (.cells (#[.int .u8 45] ++ Builtin.zeroCells #[.int .u8 0] (cp - 1)) 5)
        rw [show (((w.alloc (.cells #[.bool true, .slice a (lim n).length c] 36)).alloc (.cells #[.slice (some ⟨w.heap.size + 1 + 1 + 1, 0, none⟩) 1 cp] 88)).alloc (.cells #[.int .u8 45] 5)).heap.size = w.heap.size + 1 + 1 + 1 by simp] at this
        exact this
      · have := HCP.out.1; simp [zeroCells_size1]; omega
      · simp
    have HS1 : Hid ((((((w.alloc (.cells #[.bool true, .slice a (lim n).length c] 36)).alloc (.cells #[.slice (some ⟨w.heap.size + 1 + 1 + 1, 0, none⟩) 1 cp] 88)).alloc (.cells #[.int .u8 45] 5)).alloc (.cells (#[.int .u8 45] ++ Builtin.zeroCells #[.int .u8 0] (cp - 1)) 5)).drew).heap.size = w.heap.size + 1 + 1 + 1 + 1) := hide (by simp)
    generalize hW1 : ((((w.alloc (.cells #[.bool true, .slice a (lim n).length c] 36)).alloc (.cells #[.slice (some ⟨w.heap.size + 1 + 1 + 1, 0, none⟩) 1 cp] 88)).alloc (.cells #[.int .u8 45] 5)).alloc (.cells (#[.int .u8 45] ++ Builtin.zeroCells #[.int .u8 0] (cp - 1)) 5)).drew = W1 at *
    clear hW1 bT0
    replace HN := hide (HN.out.below HX.out.2)
    refine (callsIn_wide.2 (digits_any _ (lim n) _ HN.out b1)).mono ?_
    rintro e w2 ⟨bx, gv, rfl, hx1, hx2, hcx, hO, hb2⟩
    rw [val_lim] at hO
    have hsz := hb2.size
    have bT2 : Boxed w2 (w.heap.size + 1) 88 (.slice (some ⟨w.heap.size + 1 + 1 + 1, 0, none⟩) 1 cp) := (hb2.block _ bT.lt).trans bT
    have hrow2 : w2.ownsRow (w.heap.size + 1 + 1) 5 1 (.slice (some ⟨w.heap.size + 1 + 1 + 1, 0, none⟩) 1 cp) 1 [Value.int .u8 45] := ownsRow_below hrow0 hb2
    have hB0 : Below w.heap.size w w2 := HX.out.2.trans (hb2.mono (by have := HX.out.2.size; omega))
    have hs1 := HS1.out
    have hap : AsideV W1.heap.size w2.heap.size (.slice (some ⟨w.heap.size + 1 + 1 + 1, 0, none⟩) 1 cp) := fun j hj => .inl (hrow0.lt j hj).2
    clear hrow0 bT HX
    gi_wp2_with fail
    refine wpIn_rangeFunc_ownG rfl (by omega) (gf := 64) (lb := #[.pointer (some ⟨bx, 0, none⟩)]) rfl trivial (enters_of Try.func64 (by kernel_rfl) rfl)
      (digits_stops 2 (by omega) bx W1.heap.size w2.heap.size W1.heap.size gv (grp n) (grp_lt _) (grp_ne _) w2 hO (Nat.le_refl _) rfl hx1 hx2 hcx) Keeps.trans
      (fun W l o o' hl _ _ _ k _ h2 => by rw [World.putObj_heap_other (by omega)]) (Below.refl _ _) (fun _ => rfl)
      (fun pre W => (∃ v, Boxed W (w.heap.size + 1) 88 v ∧ W.ownsRow (w.heap.size + 1 + 1) 5 1 v (pre.length + 1) ([Value.int .u8 45] ++ bytV pre) ∧ AsideV W1.heap.size w2.heap.size v) ∧ Below w.heap.size w W ∧ w2.heap.size ≤ W.heap.size)
      (fun _ _ _ => False)
      (OwnFrom.and (Go.Own.from (holdsRow_own (w.heap.size + 1 + 1) (w.heap.size + 1) 88 5 1 (fun pre => pre.length + 1) (fun pre => [Value.int .u8 45] ++ bytV pre) (fun _ v => AsideV W1.heap.size w2.heap.size v)) _) (OwnFrom.and (ownFrom_below (by omega) (by omega)) (fun _ _ _ _ hs hg _ => Nat.le_trans hs hg.size)))
      (fun _ _ _ _ _ hs _ _ => hs)
      ⟨⟨_, bT2, hrow2, hap⟩, hB0, Nat.le_refl _⟩
      (fun x => { tmps := #[.agg #[.bool true, .slice a (lim n).length c], .pointer (some ⟨w.heap.size, 0, none⟩), .string { data := #[] }, .pointer (some ⟨w.heap.size + 1, 0, none⟩), .int .i64 (x.1 : Nat), .pointer (some ⟨w.heap.size, 0, none⟩), .bool true, .slice none 0 0, .slice (some ⟨w.heap.size + 1 + 1, 0, none⟩) 1 1, .slice (some ⟨w.heap.size + 1 + 1 + 1, 0, none⟩) 1 cp, .pointer (some ⟨w.heap.size, 1, none⟩), .slice a (lim n).length c, .func (.func 64) #[] #[.pointer (some ⟨bx, 0, none⟩)], .int .i64 (x.1 : Nat), undef, undef, undef, undef, undef, undef, undef, undef], defers := [] }) ?assign ?body ?done ?stop
    case assign =>
      intro l x W K hK
      gi_wp2
      exact hK
    case body =>
      rintro l pre x W ⟨⟨v, hv, hrow, hap⟩, hB, hS⟩ hlt
      have hc := hv.cell
      have hx := x.2
      gi_wp2_with (gi_at_builtin; refine wpListIn_append_at _ rfl _ _ 88 rfl (w.heap.size + 1 + 1) 5 i0 (.int .u8 0) 1 1 Try.underlying88 hi hz0 hz1 hz2 rfl (by decide) _ _ _ rfl (hrow.alloc _) ⟨W.heap.size, 0, none⟩ 1 1 [.int .u8 ((48 : Int) + (x.1 : Int))] rfl rfl (cell_one_new _ _ _) (by simp [Value.oneCell']) (by unfold maxLen; omega) (by omega) (by simp; omega) ?_; intro v' w1 hown' hgrow hbl; obtain ⟨g', cap', rfl⟩ := ownsRow_succ hown'; obtain ⟨hv1, hv2, hr2, hk2, hkk2, hb2, hap2⟩ := boxed_app2 (lo := W1.heap.size) (hi := w2.heap.size) (T := w.heap.size) hv (by decide) hrow hS (by omega) (by omega) (by omega) hap hbl hown' hgrow; have hc1 := hv1.cell; have hf1 := hv1.frozen)
      refine ⟨hk2.from _, hkk2, ⟨⟨_, hv2, ?_, hap2⟩, hB.trans hb2, ?_⟩⟩
      · rw [List.append_assoc, bytV_snoc] at hr2; simpa using hr2
      · have := hgrow.size; simp at this; simp [World.setCell]; omega
    case done =>
      rintro D ys W hD rfl ⟨⟨v, hv, hrow, _⟩, hB, hS⟩ hK
      have hne : (toldD (grp n)).length ≠ 0 := by rw [HL.out, dec_length]; omega
      have hD' : w.heap.size ≤ D := by omega
      rcases hrow.2 with ⟨_, h0⟩ | ⟨g, cap, cur, rfl, _, hgg, _, _, hcs, ht⟩
      · exact absurd h0 (by omega)
      · have hc := hv.cell
        have e1 : [(45 : Int)] ++ (toldD (grp n)).map (fun (x : Dg) => (48 : Int) + (x.1 : Int)) = [(45 : Int)] ++ byts (dec n) := by rw [← byts_of, told_len]
        have hconv := run_convert_bytes_arg (P := Try.prog) W 88 5 Try.underlying88 Try.underlying5 g 0 ((toldD (grp n)).length + 1) cap ([(45 : Int)] ++ byts (dec n)) (by rw [← e1]; simp) (by
          intro i hi
          rw [show 0 + i = i from by omega, hrow.cellAt i (by omega), ← e1]
          cases i with | zero => simp | succ i => simp [bytV, show i < (toldD (grp n)).length by omega]
          ) 9 Try.underlying9
        clear e1 hne
        gi_wp2
        refine ⟨by simp, .inl ⟨_, _, rfl, run_takeDeferred hK, ?_⟩⟩
        exact ⟨_, results_tmp rfl _ _ _, (by refine Eq.trans ?_ (itxt_neg n (by have := H0.out; intro e; exact absurd (this e) (by decide))); rfl), hB.trans (belowK_b (w := w) (Nat.le_refl _) W D _ _ hD' hK rfl rfl)⟩
    case stop =>
      rintro D c pre W _ _ h _
      exact h.elim

end Go.Proofs.Ytngdnekbajnomaa

namespace Go.Proofs.Ytngdnekbajnomaa
open Go.RowKit

/-- block b holds these texts, and may be written into -/
structure SRow (w : World) (b n : Nat) (f : Nat → ByteArray) : Prop where
  cells : ∀ i, i < n → w.cell? ⟨b, i, none⟩ = some (.string (f i))
  free : ∀ o, w.frozen? ⟨b, o, none⟩ = false
  lt : b < w.heap.size
theorem SRow.step {w w' : World} {b n : Nat} {f : Nat → ByteArray} (h : SRow w b n f) (hb : Below w.heap.size w w') : SRow w' b n f :=
  ⟨fun i hi => (hb.cell h.lt).trans (h.cells i hi), fun o => (hb.frozen h.lt).trans (h.free o), Nat.lt_of_lt_of_le h.lt hb.size⟩
theorem SRow.put {w : World} {b n k : Nat} {f : Nat → ByteArray} (h : SRow w b n f) (hk : k < n) (s : ByteArray) : SRow (w.setCell ⟨b, k, none⟩ (.string s)) b n (fun j => if j = k then s else f j) := by
  refine ⟨fun i hi => ?_, fun o => by rw [World.frozen?_setCell]; exact h.free o, by simpa using h.lt⟩
  by_cases e : i = k
  · subst e; rw [if_pos rfl]; exact cell_eq (h.cells i hi) _
  · rw [if_neg e]; exact cell_ne (h.cells i hi) (Ne.symm e) _
theorem Try.infoStrB : (Try.prog.info? 9).map (fun i => (i.zero, i.size, i.bytes)) = some (some (.string ByteArray.empty), 1, 16) := by kernel_rfl
theorem run_makeS (n : Nat) (hn : n ≤ 4000000000) (w : World) :
    (Instr.makeSlice 79 (.int .i64 n) (.int .i64 n)).run Try.prog w = .ok (.slice (some ⟨w.heap.size, 0, none⟩) n n) (w.alloc (.cells (madeCells #[.string ByteArray.empty] n) 9)) := by
  obtain ⟨i0, hi, hz0, hz1, hz2⟩ := info_parts Try.infoStrB
  have hr := run_make (P := Try.prog) w 79 9 i0 (.string ByteArray.empty) Try.underlying79 hi hz0 .i64 .i64 n n (by omega) (Int.le_refl _) (by rw [hz2]; omega) (by omega)
  rw [hr]
  simp only [Int.toNat_natCast, hz1, Nat.mul_one]
  rfl
theorem SRow.new (w : World) (n : Nat) : SRow (w.alloc (.cells (madeCells #[.string ByteArray.empty] n) 9)) w.heap.size n (fun _ => ByteArray.empty) := by
  have hh : (w.alloc (.cells (madeCells #[.string ByteArray.empty] n) 9)).heap[w.heap.size]? = some (.cells (madeCells #[.string ByteArray.empty] n) 9 (0, 0)) := heap_alloc_new _ _
  have hlt : w.heap.size < (w.alloc (.cells (madeCells #[.string ByteArray.empty] n) 9)).heap.size := by simp
  generalize w.alloc (.cells (madeCells #[.string ByteArray.empty] n) 9) = W at *
  refine ⟨fun i hi => ?_, fun o => by unfold World.frozen?; simp only [hh]; simp, hlt⟩
  unfold World.cell?; simp only [hh]; simp [madeCells, hi, Nat.mod_one]
theorem join_row (b n : Nat) (f : Nat → ByteArray) (w : World) (hr : SRow w b n f) (hn : n ≤ 4000000000) (hlen : (Lib.join ((List.range n).map fun i => (f i).data.toList) [32]).length ≤ 140737488355328) :
    Calls Try.prog 48 #[.slice (some ⟨b, 0, none⟩) n n, .string ⟨#[32]⟩] w fun e w' => e = .returned (.string ⟨(Lib.join ((List.range n).map fun i => (f i).data.toList) [32]).toArray⟩) ∧ Below w.heap.size w w' := by
  have e1 : ((List.range n).map f).length = n := by simp
  have e2 : ((List.range n).map f).map (fun x => x.data.toList) = (List.range n).map fun i => (f i).data.toList := by rw [List.map_map]; rfl
  have h := Try.strings_Join b 0 n ((List.range n).map f) ⟨#[32]⟩ w (fun j x hj => by
    rw [List.getElem?_map] at hj
    have hjn : j < n := by
      rcases Nat.lt_or_ge j n with h | h
      · exact h
      · rw [List.getElem?_eq_none (by simpa using h)] at hj; simp at hj
    rw [List.getElem?_range hjn] at hj
    simp only [Option.map_some, Option.some.injEq] at hj
    rw [Nat.zero_add, ← hj]
    exact hr.cells j hjn) hr.lt (by rw [e1]; omega) (by rw [e1]; exact Nat.le_refl _) (by rw [e2]; exact hlen)
  rw [e1, e2] at h
  exact h
/-- a row's text -/
def wtxt (zs : List Int) : ByteArray := (⟨#[91]⟩ ++ ⟨(Lib.join (zs.map fun z => (itxt z).data.toList) [32]).toArray⟩) ++ ⟨#[93]⟩
/-- the first k texts -/
def txTo (zs : List Int) (k : Nat) : Nat → ByteArray := fun j => if j < k then itxt (zs.getD j 0) else ByteArray.empty
theorem txTo_put (zs : List Int) (k : Nat) : (fun j => if j = k then itxt (zs.getD k 0) else txTo zs k j) = txTo zs (k + 1) := by
  funext j
  unfold txTo
  by_cases h : j = k
  · subst h; rw [if_pos rfl, if_pos (by omega)]
  · rw [if_neg h]
    by_cases h2 : j < k
    · rw [if_pos h2, if_pos (by omega)]
    · rw [if_neg h2, if_neg (by omega)]

set_option maxRecDepth 100000 in
set_option maxHeartbeats 4000000 in
theorem rtext_any (va : Value) (zs : List Int) (w : World) (h : Ints w va zs) (hm : zs.length ≤ 4000000000) (hs : ∀ i, (lim (zs.getD i 0).natAbs).length ≤ 1000000000) (hlen : (Lib.join (zs.map fun z => (itxt z).data.toList) [32]).length ≤ 140737488355328) :
    Calls Try.prog 26 #[va] w fun e w' => e = .returned (.string (wtxt zs)) ∧ Below w.heap.size w w' := by
  have HI := hide h
  have HS := hide hs
  have HL := hide hlen
  obtain ⟨a, cap, rfl, hcap, hmx, _⟩ := h
  have hmk := run_makeS zs.length hm
  have HR := hide (SRow.new w zs.length)
  have HB := hide (below_alloc w (.cells (madeCells #[.string ByteArray.empty] zs.length) 9))
  unfold maxLen at hmx
  clear hs hlen
  go_enter Try.func26, Try.ntmps26
  go_wp2
  go_loopw [4, 5, 11] (fun _ _ iv wr => ∃ k : Nat, k ≤ zs.length ∧ iv = .int .i64 k ∧ Below w.heap.size w wr ∧ SRow wr w.heap.size zs.length (txTo zs k)) (fun _ _ iv _ => zs.length - (intOf iv).toNat)
  case atStart => exact ⟨0, Nat.zero_le _, rfl, HB.out, HR.out⟩
  case round =>
    obtain ⟨k, hk, rfl, hbel, hrow⟩ := hrel
    clear HB HR
    have HB := hide hbel
    have HR := hide hrow
    clear hbel hrow hmk
    by_cases hlt : k < zs.length
    · obtain ⟨b, off, rfl, s, m, l, c, k1, k2, k3⟩ := (HI.out.below HB.out).at hlt
      have IX := hide k3
      have e1 := k1.out
      have e2 := k2.out
      have HA := hide (below_alloc wr (.cells #[.bool s, .slice m l c] 36))
      have PX := hide (Box.new wr (.bool s) (.slice m l c))
      have x0 := PX.out.cell0
      have x1 := PX.out.cell1
      have LZ := hide (HS.out k)
      have HZ := hide (txTo_put zs k)
      clear k1 k2 k3
      generalize zs.getD k 0 = z at *
      go_wp2_with fail
      refine (itext_any _ z _ (IX.out.below HA.out) LZ.out).mono ?_
      rintro e w1 ⟨rfl, hb⟩
      replace HR := hide ((HR.out.step HA.out).step hb)
      replace HB := hide ((HB.out.trans (HA.out.mono HB.out.size)).trans (hb.mono (HB.out.trans (HA.out.mono HB.out.size)).size))
      clear hb x0 x1 e1 e2 IX PX HA
      have g1 := HR.out.cells k hlt
      have f1 := HR.out.free k
      go_wp2
      go_roundw
      case rel => exact ⟨k + 1, by omega, by go_num, HB.out.setCell (Nat.le_refl _) _, by rw [← HZ.out]; exact HR.out.put hlt _⟩
      case measure => simp [intOf]; omega
    · have e : k = zs.length := by omega
      subst e
      have EJ : (List.range zs.length).map (fun i => (txTo zs zs.length i).data.toList) = zs.map fun z => (itxt z).data.toList := by
        apply List.ext_getElem
        · simp
        · intro i h1 h2
          have hi : i < zs.length := by simpa using h1
          simp [txTo, hi]
      have HJ := hide (join_row w.heap.size zs.length (txTo zs zs.length) wr HR.out hm (by rw [EJ]; exact HL.out))
      rw [EJ] at HJ
      have hsz : ¬ 9223372036854775807 < 1 + (Lib.join (zs.map fun z => (itxt z).data.toList) [32]).length := by have := HL.out; omega
      have hsz2 : ¬ 9223372036854775807 < 1 + (Lib.join (zs.map fun z => (itxt z).data.toList) [32]).length + 1 := by have := HL.out; omega
      have HW : Hid (wtxt zs = (⟨#[91]⟩ ++ ⟨(Lib.join (zs.map fun z => (itxt z).data.toList) [32]).toArray⟩) ++ ⟨#[93]⟩) := hide rfl
      clear EJ
      generalize Lib.join (zs.map fun z => (itxt z).data.toList) [32] = J at *
      go_wp2_with fail
      refine HJ.out.mono ?_
      rintro e w1 ⟨rfl, hb⟩
      replace HB := hide (HB.out.trans (hb.mono HB.out.size))
      clear hb
      go_wp2
      go_ret
      exact ⟨by rw [HW.out]; rfl, HB.out⟩
end Go.Proofs.Ytngdnekbajnomaa

namespace Go.Proofs.Ytngdnekbajnomaa
open Go.RowKit

theorem longs2 (w : World) (a b : Int) (t : TypeId) (ha : -9223372036854775808 ≤ a ∧ a ≤ 9223372036854775807) (hb : -9223372036854775808 ≤ b ∧ b ≤ 9223372036854775807) : Longs (w.alloc (.cells #[.int .i64 a, .int .i64 b] t)) (.slice (some ⟨w.heap.size, 0, none⟩) 2 2) [a, b] := by
  have hh : (w.alloc (.cells #[.int .i64 a, .int .i64 b] t)).heap[w.heap.size]? = some (.cells #[.int .i64 a, .int .i64 b] t (0, 0)) := heap_alloc_new _ _
  generalize w.alloc (.cells #[.int .i64 a, .int .i64 b] t) = W at *
  refine ⟨_, 2, rfl, Nat.le_refl _, by decide, fun i hi => ?_, fun _ => ⟨_, 0, rfl, fun i hi => ?_⟩⟩
  · match i, hi with
    | 0, _ => exact ha
    | 1, _ => exact hb
  · unfold World.cell?
    simp only [hh]
    match i, hi with
    | 0, _ => rfl
    | 1, _ => rfl
theorem lj : Lib.join (([4, -2] : List Int).map fun z => (itxt z).data.toList) [32] = [52, 32, 45, 50] := by kernel_rfl
theorem lt4 : wtxt [4, -2] = ⟨#[91, 52, 32, 45, 50, 93]⟩ := by kernel_rfl
theorem szl_lit {xs : List Int} (h : ∀ i, i < xs.length → SzI 1 (xs.getD i 0)) : SzL 1 xs := by
  intro i
  rcases Nat.lt_or_ge i xs.length with hi | hi
  · exact h i hi
  · rw [List.getD_eq_getElem?_getD, List.getElem?_eq_none hi]; show SzI 1 0; unfold SzI; decide

set_option maxRecDepth 100000 in
set_option maxHeartbeats 2000000 in
theorem rlive_any (w : World) : Calls Try.prog 4 #[] w fun e w' => e = .returned (.bool true) ∧ Below w.heap.size w w' := by
  have hA := longs2 w 1 2 2 (by decide) (by decide)
  have HA := hide hA
  have HB := hide (below_alloc w (.cells #[.int .i64 1, .int .i64 2] 2))
  clear hA
  go_enter Try.func4, Try.ntmps4
  go_wp2_with fail
  refine (rof_row _ [1, 2] _ HA.out (by decide)).mono ?_
  rintro e w1 ⟨rfl, hr, hb⟩
  have R1 := hide hr
  replace HB := hide (HB.out.trans (hb.mono HB.out.size))
  clear hr hb HA
  generalize (w.alloc (.cells #[.int .i64 1, .int .i64 2] 2)).heap.size + 1 = g1 at *
  have HA := hide (longs2 w1 3 (-4) 2 (by decide) (by decide))
  replace R1 := hide (R1.out.step (below_alloc w1 (.cells #[.int .i64 3, .int .i64 (-4)] 2)))
  replace HB := hide (HB.out.trans ((below_alloc w1 (.cells #[.int .i64 3, .int .i64 (-4)] 2)).mono HB.out.size))
  go_wp2_with fail
  refine (rof_row _ [3, -4] _ HA.out (by decide)).mono ?_
  rintro e w2 ⟨rfl, hr, hb⟩
  have R2 := hide hr
  replace R1 := hide (R1.out.step hb)
  replace HB := hide (HB.out.trans (hb.mono HB.out.size))
  clear hr hb HA
  generalize (w1.alloc (.cells #[.int .i64 3, .int .i64 (-4)] 2)).heap.size + 1 = g2 at *
  go_wp2_with fail
  refine (radd_any _ _ [1, 2] [3, -4] 1 _ (R1.out.ints (by decide)) (R2.out.ints (by decide)) rfl (by decide) (szl_lit fun i hi => ?_) (szl_lit fun i hi => ?_) (by decide)).mono ?_
  · match i, hi with
    | 0, _ => show SzI 1 1; unfold SzI; decide
    | 1, _ => show SzI 1 2; unfold SzI; decide
  · match i, hi with
    | 0, _ => show SzI 1 3; unfold SzI; decide
    | 1, _ => show SzI 1 (-4); unfold SzI; decide
  rintro e w3 ⟨b, rfl, hsb, hr, hb⟩
  replace hr : IRow w3 b [4, -2] := hr
  have R3 := hide hr
  replace HB := hide (HB.out.trans (hb.mono HB.out.size))
  clear hr hb R1 R2 hsb
  go_wp2_with fail
  refine (rtext_any _ [4, -2] _ (R3.out.ints (by decide)) (by decide) (fun i => ?_) (by rw [lj]; decide)).mono ?_
  · match i with
    | 0 => decide
    | 1 => decide
    | i + 2 => show (lim (Int.natAbs 0)).length ≤ _; decide
  rintro e w4 ⟨rfl, hb⟩
  replace HB := hide (HB.out.trans (hb.mono HB.out.size))
  rw [lt4]
  clear hb R3
  go_wp2
  go_ret
  exact ⟨rfl, HB.out⟩
end Go.Proofs.Ytngdnekbajnomaa
