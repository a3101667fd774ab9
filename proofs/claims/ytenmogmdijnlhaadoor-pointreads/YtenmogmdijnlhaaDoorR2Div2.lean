/- The document's answers for layer 2 (swageref02): divide, bit by bit. -/
import Derived.Test.YtenmogmdijnlhaaDoorTimes
import Derived.Lib.BitFns
import Derived.Lib.Small
import Derived.Lib.Strings
import Derived.Lib.Walk
import Derived.Test.YtenmogmdijnlhaaDoorR2Law
import Derived.Laws.BitsAllLaws
import Derived.Test.YtenmogmdijnlhaaDoorR2Div1
import Derived.RegionTactic
namespace Go.Proofs.YtenmogmdijnlhaaDoor
open Go.RowKit

/-- block g holds the row R1 P R2, none of it frozen -/
def Seg (w : World) (base g N cap : Nat) (R : List Nat) : Prop := RowC w base g N cap R ∧ R.length = N

theorem Seg.cell {w : World} {base g N cap : Nat} {R : List Nat} (h : Seg w base g N cap R) (i : Nat) (hi : i < N) : w.cell? ⟨g, i, none⟩ = some (.int .u32 (lm R i : Nat)) := h.1.cell h.2 i hi
theorem Seg.free {w : World} {base g N cap : Nat} {R : List Nat} (h : Seg w base g N cap R) (i : Nat) : w.frozen? ⟨g, i, none⟩ = false := h.1.free i
theorem Seg.set {w : World} {base g N cap : Nat} {R R' : List Nat} (h : Seg w base g N cap R) (i x : Nat) (e : R.set i x = R') : Seg (w.setCell ⟨g, i, none⟩ (.int .u32 (x : Nat))) base g N cap R' := by
  subst e
  exact ⟨h.1.set i x, by rw [List.length_set]; exact h.2⟩
theorem Seg.kept {w w' : World} {base g N cap : Nat} {R : List Nat} {row : Option Nat} (h : Seg w base g N cap R) (hg : w.grownBy w' row) (hne : some g ≠ row) : Seg w' base g N cap R :=
  ⟨World.ownsRow.kept h.1 hg (.inr hne), h.2⟩
theorem Seg.lt {w : World} {base g N cap : Nat} {R : List Nat} (h : Seg w base g N cap R) : g < w.heap.size := (World.ownsRow.lt h.1 g rfl).2

/-- a carry that goes up: each limb is f k and the carry -/
structure UpAt (F : Nat → Nat) (k q : Nat) (A : List Nat) : Prop where
  len : A.length = k
  ok : Ok A
  sum : val A + BB ^ k * q = F k

/-- so many bits are wanted for x -/
def IsLen (x L : Nat) : Prop := x < 2 ^ L ∧ (0 < x → 1 ≤ L ∧ 2 ^ (L - 1) ≤ x)

theorem IsLen.shift {x b L : Nat} (h : IsLen (x / 2 ^ b) L) (hp : 0 < x / 2 ^ b) : IsLen x (b + L) := by
  obtain ⟨h1, h2⟩ := h
  obtain ⟨h3, h4⟩ := h2 hp
  have hb : 0 < 2 ^ b := Nat.two_pow_pos b
  refine ⟨?_, fun _ => ⟨by omega, ?_⟩⟩
  · rw [Nat.div_lt_iff_lt_mul hb, ← Nat.pow_add] at h1; rw [Nat.add_comm]; exact h1
  · rw [Nat.le_div_iff_mul_le hb, ← Nat.pow_add] at h4
    rw [show b + L - 1 = L - 1 + b from by omega]; exact h4
end Go.Proofs.YtenmogmdijnlhaaDoor

namespace Go.Proofs.YtenmogmdijnlhaaDoor
open Go.RowKit

/-- the bits of a digit, counted one by one -/
structure DCnt (t i x : Nat) : Prop where
  eq : x = t / 2 ^ i
  pos : 1 ≤ i → 0 < t / 2 ^ (i - 1)
theorem DCnt.step {t i x : Nat} (h : DCnt t i x) (hx : 0 < x) : DCnt t (i + 1) (x / 2) :=
  ⟨by rw [h.eq, Nat.div_div_eq_div_mul, ← Nat.pow_succ], fun _ => by rw [Nat.add_sub_cancel, ← h.eq]; exact hx⟩
theorem DCnt.end {t i : Nat} (h : DCnt t i 0) : IsLen t i := by
  have hp : 0 < 2 ^ i := Nat.two_pow_pos i
  have h1 : t < 2 ^ i := by
    have := h.eq
    rcases Nat.lt_or_ge t (2 ^ i) with h' | h'
    · exact h'
    · have := Nat.div_pos h' hp; omega
  refine ⟨h1, fun ht => ?_⟩
  rcases Nat.eq_zero_or_pos i with e | e
  · rw [e] at h1; simp at h1; omega
  · have := h.pos e
    exact ⟨e, (Nat.div_pos_iff.1 this).2⟩
theorem dbb_pow (n : Nat) : D.BB ^ n = 2 ^ (16 * n) := by rw [show D.BB = 2 ^ 16 from rfl, ← Nat.pow_mul]
theorem dtop_div {L : List Nat} {n : Nat} (ho : D.Ok L) (h : L.length = n + 1) : D.val L / 2 ^ (16 * n) = lm L n := by
  have e : D.val L = D.val (L.take n) + 65536 ^ n * lm L n := by rw [← dtake_succ, List.take_of_length_le (by omega)]
  have hl := D.val_lt (ho.take n)
  rw [List.length_take, Nat.min_eq_left (by omega), dbb_pow] at hl
  have hB : 65536 ^ n = 2 ^ (16 * n) := dbb_pow n
  rw [hB] at e
  rw [e, Nat.add_mul_div_left _ _ (Nat.two_pow_pos _), Nat.div_eq_of_lt hl, Nat.zero_add]
theorem ddrop_div (xs : List Nat) (k : Nat) (h : D.Ok xs) : D.val xs / 65536 ^ k = D.val (xs.drop k) := by
  rcases Nat.lt_or_ge k xs.length with hk | hk
  · have e := D.val_append (xs.take k) (xs.drop k)
    rw [List.take_append_drop, List.length_take, Nat.min_eq_left (by omega)] at e
    have hl := D.val_lt (h.take k)
    rw [List.length_take, Nat.min_eq_left (by omega)] at hl
    show D.val xs / D.BB ^ k = _
    rw [e, Nat.add_mul_div_left _ _ (Nat.pow_pos D.BB_pos), Nat.div_eq_of_lt hl, Nat.zero_add]
  · rw [List.drop_of_length_le hk]
    show D.val xs / D.BB ^ k = _
    rw [Nat.div_eq_of_lt (Nat.lt_of_lt_of_le (D.val_lt h) (Nat.pow_le_pow_right D.BB_pos hk))]; rfl
theorem ddrop_val' (xs : List Nat) (k : Nat) (h : k < xs.length) : D.val (xs.drop k) = lm xs k + 65536 * D.val (xs.drop (k + 1)) := by
  rw [List.drop_eq_getElem_cons h, lm_get _ _ h]; simp [D.val, D.BB]
theorem ddigit (xs : List Nat) (k : Nat) (h : D.Ok xs) : D.val xs / 65536 ^ k % 65536 = lm xs k := by
  rw [ddrop_div xs k h]
  rcases Nat.lt_or_ge k xs.length with hk | hk
  · rw [ddrop_val' xs k hk, Nat.add_mul_mod_self_left, Nat.mod_eq_of_lt (dlm_lt h k)]
  · rw [List.drop_of_length_le hk, lm_over _ _ hk]; rfl
theorem dbit_val (xs : List Nat) (k : Nat) (h : D.Ok xs) : D.val xs / 2 ^ k % 2 = lm xs (k / 16) / 2 ^ (k % 16) % 2 := by
  have e : (2 : Nat) ^ k = 65536 ^ (k / 16) * 2 ^ (k % 16) := by
    rw [show (65536 : Nat) = 2 ^ 16 from rfl, ← Nat.pow_mul, ← Nat.pow_add, Nat.div_add_mod]
  rw [e, ← Nat.div_div_eq_div_mul, ← ddigit xs (k / 16) h]
  generalize D.val xs / 65536 ^ (k / 16) = y
  have hk : k % 16 < 16 := Nat.mod_lt _ (by decide)
  generalize k % 16 = s at hk
  obtain ⟨r, hr⟩ : ∃ r, 65536 = 2 ^ s * (2 * r) := ⟨2 ^ (15 - s), by
    rw [← Nat.pow_succ', ← Nat.pow_add, show s + (15 - s + 1) = 16 from by omega]⟩
  have h2 := Nat.div_add_mod y 65536
  have h3 : y / 2 ^ s = y % 65536 / 2 ^ s + 2 * r * (y / 65536) := by
    have : y = y % 65536 + 2 ^ s * (2 * r * (y / 65536)) := by rw [← Nat.mul_assoc, ← hr]; omega
    conv => lhs; rw [this]
    rw [Nat.add_mul_div_left _ _ (Nat.two_pow_pos s)]
  rw [h3, Nat.mul_assoc]
  omega
theorem dand_one (m : Nat) (h : m < 4294967296) : bits .and .u32 (m : Int) 1 = ((m % 2 : Nat) : Int) := by
  have := u32_and_nat m 1 h (by decide)
  rw [Nat.and_one_is_mod] at this
  exact this

set_option maxRecDepth 100000 in
set_option maxHeartbeats 1000000 in
theorem rbits2_any (v : Value) (m : Nat) (w : World) (h : Nums w v (D.lim m)) (hlen : (D.lim m).length ≤ 100000000) :
    Calls Tryd.prog 77 #[v] w fun e w' => ∃ L : Nat, e = .returned (.int .i64 (L : Nat)) ∧ IsLen m L ∧ L ≤ 16 * (D.lim m).length ∧ w' = w := by
  obtain ⟨_, a, cap, rfl, hl1, hm1, hc1⟩ := h
  unfold maxLen at hm1
  have HC := hide hc1
  clear hc1
  by_cases hz : m = 0
  · subst hz
    rw [D.lim_zero]
    go_enter Tryd.func77, Tryd.ntmps77
    go_wp2
    go_ret
    exact ⟨0, rfl, ⟨by decide, fun h => absurd h (by decide)⟩, Nat.zero_le _, rfl⟩
  · have hp : 0 < (D.lim m).length := by rw [D.lim_pos (Nat.pos_of_ne_zero hz)]; simp
    have hlz : ((((D.lim m).length : Nat) : Int) == 0) = false := by rw [beq_eq_false_iff_ne]; omega
    have HT := hide (dtop_div (L := D.lim m) (n := (D.lim m).length - 1) (D.ok_lim m) (by omega))
    rw [D.val_lim] at HT
    have HTOP := hide (dlim_last hp)
    have HOK := hide (D.ok_lim m)
    clear hz
    generalize D.lim m = L at *
    obtain ⟨b, off, rfl, hx⟩ := HC.out (ne_nil (k := L.length - 1) (by omega))
    have hxt := hx (L.length - 1) (by omega)
    have htb := dlm_lt HOK.out (L.length - 1)
    clear hx HC
    go_enter Tryd.func77, Tryd.ntmps77
    go_wp2
    go_loop [3, 4] (fun nv xv => ∃ i x : Nat, i ≤ 16 ∧ nv = .int .i64 (16 * ((L.length - 1 : Nat) : Int) + (i : Int)) ∧ xv = .int .u32 x ∧ x ≤ 65535 ∧ Hid (DCnt (lm L (L.length - 1)) i x)) (fun _ xv => (intOf xv).toNat)
    case atStart => exact ⟨0, _, by omega, by congr 1; omega, rfl, by omega, ⟨by simp, fun h => absurd h (by omega)⟩⟩
    case round =>
      obtain ⟨i, x, hi, rfl, rfl, hx, hat⟩ := hrel
      by_cases hx0 : x = 0
      · subst hx0
        go_wp2
        go_ret
        have hL := hat.out.end
        rw [← HT.out] at hL
        refine ⟨16 * (L.length - 1) + i, ?_, ?_, ?_, rfl⟩
        · exact congrArg Ending.returned (congrArg (Value.int .i64) (by omega))
        · have : 0 < m / 2 ^ (16 * (L.length - 1)) := by
            rw [HT.out]
            exact Nat.pos_of_ne_zero HTOP.out
          exact hL.shift this
        · omega
      · have hxp : 0 < x := by omega
        have hi31 : i ≤ 15 := by
          rcases Nat.lt_or_ge i 16 with h | h
          · omega
          · exfalso
            have h1 := hat.out.eq
            have : lm L (L.length - 1) / 2 ^ i = 0 := Nat.div_eq_of_lt (Nat.lt_of_lt_of_le htb (Nat.pow_le_pow_right (n := 2) (by decide) h))
            omega
        go_wp2
        go_round
        case rel => exact ⟨i + 1, x / 2, by omega, congrArg (Value.int .i64) (by omega), congrArg (Value.int .u32) (by omega), by omega, hat.out.step hxp⟩
        case measure => simp [intOf]; omega

set_option maxRecDepth 100000 in
set_option maxHeartbeats 1000000 in
theorem rbit2_any (v : Value) (m k : Nat) (w : World) (h : Nums w v (D.lim m)) (hlt : k / 16 < (D.lim m).length) (hlen : (D.lim m).length ≤ 100000000) :
    Calls Tryd.prog 78 #[v, .int .i64 k] w fun e w' => e = .returned (.int .u32 ((m / 2 ^ k % 2 : Nat) : Int)) ∧ w' = w := by
  have HB := hide (dbit_val (D.lim m) k (D.ok_lim m))
  rw [D.val_lim] at HB
  have HOK := hide (D.ok_lim m)
  obtain ⟨_, a, cap, rfl, hl, hm, hc⟩ := h
  unfold maxLen at hm
  generalize D.lim m = xs at *
  have hltI : (k : Int) / 16 < (xs.length : Int) := by omega
  have hkb : k ≤ 1600000016 := by omega
  obtain ⟨b, off, rfl, hx⟩ := hc (ne_nil hlt)
  have hxc := hx (k / 16) hlt
  have hxb := dlm_lt HOK.out (k / 16)
  have hm32 : lm xs (k / 16) / 2 ^ (k % 16) < 4294967296 := Nat.lt_of_le_of_lt (Nat.div_le_self _ _) (by omega)
  have HAND := hide (dand_one _ hm32)
  clear hx hc
  go_enter Tryd.func78, Tryd.ntmps78
  go_wp2
  go_ret
  refine ⟨congrArg Ending.returned ?_, rfl⟩
  rw [HB.out]
  have e : ((lm xs (k / 16) : Int) / 2 ^ (k % 16)) = ((lm xs (k / 16) / 2 ^ (k % 16) : Nat) : Int) := by rw [Int.natCast_ediv, Int.natCast_pow]; rfl
  rw [← HAND.out, ← e]
  rfl
end Go.Proofs.YtenmogmdijnlhaaDoor

namespace Go.Proofs.YtenmogmdijnlhaaDoor
open Go.RowKit

/-- twice a number, and one more perhaps: behind i digits -/
structure DDbl (xs : List Nat) (c0 i c : Nat) (A : List Nat) : Prop where
  len : A.length = i
  ok : D.Ok A
  c1 : c ≤ 1
  sum : D.val A + 65536 ^ i * c = 2 * D.val (xs.take i) + c0
theorem DDbl.zero (xs : List Nat) (c0 : Nat) (h : c0 ≤ 1) : DDbl xs c0 0 c0 [] := ⟨rfl, D.Ok.nil, h, by simp [D.val]⟩
theorem DDbl.step {xs : List Nat} {c0 i c : Nat} {A : List Nat} (h : DDbl xs c0 i c A) (hx : D.Ok xs) : DDbl xs c0 (i + 1) ((c + 2 * lm xs i) / 65536) (A ++ [(c + 2 * lm xs i) % 65536]) := by
  have h1 := dlm_lt hx i
  have h2 := h.c1
  refine ⟨by simp [h.len], h.ok.append (D.Ok.cons (Nat.mod_lt _ (by decide)) D.Ok.nil), by omega, ?_⟩
  have hs := h.sum
  have em := Nat.mod_add_div (c + 2 * lm xs i) 65536
  rw [D.val_append, h.len, dtake_succ, Nat.pow_succ]
  simp only [D.val, Nat.mul_zero, Nat.add_zero]
  show D.val A + 65536 ^ i * ((c + 2 * lm xs i) % 65536) + 65536 ^ i * 65536 * ((c + 2 * lm xs i) / 65536) = 2 * (D.val (xs.take i) + 65536 ^ i * lm xs i) + c0
  have e : 65536 ^ i * ((c + 2 * lm xs i) % 65536) + 65536 ^ i * 65536 * ((c + 2 * lm xs i) / 65536) = 65536 ^ i * c + 2 * (65536 ^ i * lm xs i) := by
    rw [Nat.mul_assoc, ← Nat.mul_add, em, Nat.mul_add, Nat.mul_left_comm]
  omega
theorem dlim_of {A : List Nat} (h : D.Ok A) (hl : A = [] ∨ 65536 ^ (A.length - 1) ≤ D.val A) : D.lim (D.val A) = A := by
  refine D.lim_val h (fun x hx => ?_)
  rcases hl with rfl | hl
  · simp at hx
  · rintro rfl
    have hne : A ≠ [] := by rintro rfl; simp at hx
    have e := List.dropLast_concat_getLast hne
    have e2 : A.getLast hne = 0 := by rw [List.getLast?_eq_some_getLast hne] at hx; simpa using hx
    rw [e2] at e
    have h1 : D.val A = D.val A.dropLast := by
      conv => lhs; rw [← e]
      rw [D.val_append]; simp [D.val]
    have h2 : D.val A.dropLast < D.BB ^ A.dropLast.length := D.val_lt (fun y hy => h y (List.dropLast_subset A hy))
    rw [List.length_dropLast] at h2
    have h3 : D.BB ^ (A.length - 1) = 65536 ^ (A.length - 1) := rfl
    omega
theorem dlim_lo {R : Nat} (h : 0 < R) : 65536 ^ ((D.lim R).length - 1) ≤ R := by
  have hp : 0 < (D.lim R).length := by rw [D.lim_pos h]; simp
  have ht := dtop_div (L := D.lim R) (n := (D.lim R).length - 1) (D.ok_lim R) (by omega)
  rw [D.val_lim] at ht
  have hn := dlim_last hp
  rw [← ht] at hn
  have := (Nat.div_pos_iff.1 (Nat.pos_of_ne_zero hn)).2
  rw [← dbb_pow] at this
  exact this
/-- the digits of twice a number, and one more perhaps -/
theorem DDbl.end {R c0 c : Nat} {A : List Nat} (h : DDbl (D.lim R) c0 (D.lim R).length c A) : (c = 0 → A = D.lim (2 * R + c0)) ∧ (c ≠ 0 → A ++ [c] = D.lim (2 * R + c0)) := by
  have hs := h.sum
  rw [List.take_length, D.val_lim] at hs
  have hc := h.c1
  constructor
  · intro h0
    rw [h0, Nat.mul_zero, Nat.add_zero] at hs
    rw [← hs]
    refine (dlim_of h.ok ?_).symm
    rcases Nat.eq_zero_or_pos R with hR | hR
    · left
      have : A.length = 0 := by rw [h.len, hR]; rfl
      exact List.length_eq_zero_iff.1 this
    · right
      rw [h.len, hs]
      have := dlim_lo hR
      omega
  · intro h1
    have e1 : c = 1 := by omega
    subst e1
    rw [Nat.mul_one] at hs
    have e2 : D.val (A ++ [1]) = 2 * R + c0 := by
      rw [D.val_append, h.len, ← hs]; simp [D.val, D.BB]
    rw [← e2]
    refine (dlim_of (h.ok.append (D.Ok.cons (by decide) D.Ok.nil)) (.inr ?_)).symm
    rw [D.val_append, List.length_append]
    simp [D.val, D.BB]
theorem dbl_set (A xs : List Nat) (i x : Nat) (hA : A.length = i) (hi : i < xs.length) : (A ++ xs.drop i).set i x = (A ++ [x]) ++ xs.drop (i + 1) := by
  rw [List.set_append_right _ _ (by omega), hA, Nat.sub_self, List.drop_eq_getElem_cons hi, List.set_cons_zero, List.append_assoc]
  rfl
theorem dbl_at (A xs : List Nat) (i : Nat) (hA : A.length = i) : lm (A ++ xs.drop i) i = lm xs i := by
  unfold lm
  rw [List.getD_eq_getElem?_getD, List.getD_eq_getElem?_getD, List.getElem?_append_right (by omega), hA, Nat.sub_self, List.getElem?_drop, Nat.add_zero]
/-- one bit of a quotient -/
theorem bit_yes {m n k R1 : Nat} (hn : 0 < n) (hR1 : R1 = 2 * (m / 2 ^ (k + 1) % n) + m / 2 ^ k % 2) : (n ≤ R1 → m / 2 ^ k / n = 2 * (m / 2 ^ (k + 1) / n) + 1 ∧ m / 2 ^ k % n = R1 - n) ∧ (R1 < n → m / 2 ^ k / n = 2 * (m / 2 ^ (k + 1) / n) ∧ m / 2 ^ k % n = R1) := by
  have e : m / 2 ^ k = 2 * (m / 2 ^ (k + 1)) + m / 2 ^ k % 2 := by
    rw [Nat.pow_succ, ← Nat.div_div_eq_div_mul]; omega
  have hd := Nat.div_add_mod (m / 2 ^ (k + 1)) n
  have hm := Nat.mod_lt (m / 2 ^ (k + 1)) hn
  generalize m / 2 ^ (k + 1) / n = Q at *
  generalize m / 2 ^ (k + 1) % n = R at *
  generalize m / 2 ^ (k + 1) = Y at *
  have hb : m / 2 ^ k % 2 ≤ 1 := by omega
  have e2 : m / 2 ^ k = n * (2 * Q) + R1 := by
    rw [Nat.mul_left_comm]; omega
  generalize m / 2 ^ k = X at *
  constructor
  · intro h
    have e3 : X = n * (2 * Q + 1) + (R1 - n) := by rw [Nat.mul_add, Nat.mul_one]; omega
    have hlt : R1 - n < n := by omega
    rw [e3, Nat.mul_add_div hn, Nat.div_eq_of_lt hlt, Nat.mul_add_mod, Nat.mod_eq_of_lt hlt]
    exact ⟨rfl, rfl⟩
  · intro h
    rw [e2, Nat.mul_add_div hn, Nat.div_eq_of_lt h, Nat.mul_add_mod, Nat.mod_eq_of_lt h]
    exact ⟨rfl, rfl⟩
/-- a bit that is laid into a digit -/
theorem or_bit {qs : List Nat} {k V : Nat} (hq : D.Ok qs) (hv : D.val qs = V * 2 ^ (k + 1)) (hk : k / 16 < qs.length) :
    lm qs (k / 16) ||| 2 ^ (k % 16) < 65536 ∧ D.val (qs.set (k / 16) (lm qs (k / 16) ||| 2 ^ (k % 16))) = (2 * V + 1) * 2 ^ k := by
  have hs : k % 16 < 16 := Nat.mod_lt _ (by decide)
  have hd := ddigit qs (k / 16) hq
  have ek : k = 16 * (k / 16) + k % 16 := (Nat.div_add_mod k 16).symm
  have eB : (65536 : Nat) ^ (k / 16) = 2 ^ (16 * (k / 16)) := by rw [show (65536 : Nat) = 2 ^ 16 from rfl, ← Nat.pow_mul]
  have hlm : lm qs (k / 16) = V * 2 ^ (k % 16 + 1) % 65536 := by
    rw [← hd, hv, eB]
    congr 1
    rw [show k + 1 = 16 * (k / 16) + (k % 16 + 1) by omega, Nat.pow_add, Nat.mul_left_comm, Nat.mul_div_cancel_left _ (Nat.two_pow_pos _)]
  obtain ⟨u, hu⟩ : ∃ u, lm qs (k / 16) = 2 ^ (k % 16 + 1) * u := by
    refine ⟨V % 2 ^ (15 - k % 16), ?_⟩
    rw [hlm, Nat.mul_comm V, show (65536 : Nat) = 2 ^ (k % 16 + 1) * 2 ^ (15 - k % 16) by rw [← Nat.pow_add, show k % 16 + 1 + (15 - k % 16) = 16 by omega], Nat.mul_mod_mul_left]
  have hor : lm qs (k / 16) ||| 2 ^ (k % 16) = lm qs (k / 16) + 2 ^ (k % 16) := by
    rw [hu]
    exact (Nat.two_pow_add_eq_or_of_lt (Nat.pow_lt_pow_right (by decide) (Nat.lt_succ_self _)) u).symm
  constructor
  · have h1 := dlm_lt hq (k / 16)
    have h2 : 2 ^ (k % 16) < 2 ^ 16 := Nat.pow_lt_pow_right (by decide) hs
    exact Nat.or_lt_two_pow (n := 16) h1 h2
  · have e := dset_val qs (k / 16) (lm qs (k / 16) ||| 2 ^ (k % 16)) hk
    rw [hor, Nat.mul_add] at e
    have e2 : 65536 ^ (k / 16) * 2 ^ (k % 16) = 2 ^ k := by rw [eB, ← Nat.pow_add, Nat.div_add_mod]
    rw [e2, hv] at e
    rw [hor, Nat.add_mul, Nat.one_mul]
    rw [Nat.pow_succ, Nat.mul_comm (2 ^ k) 2, ← Nat.mul_assoc, Nat.mul_comm V 2] at e
    omega
theorem RowC.kept {w w' : World} {base g n cap : Nat} {row : Option Nat} {xs : List Nat} (h : RowC w base g n cap xs) (hg : w.grownBy w' row) (hne : row ≠ some g) : RowC w' base g n cap xs :=
  World.ownsRow.kept h hg (.inr (fun e => hne (by rw [← e]; rfl)))
theorem RowC.elder {w w' : World} {base g n cap : Nat} {xs : List Nat} (h : RowC w base g n cap xs) (hb : Below w.heap.size w w') : RowC w' base g n cap xs := by
  refine ⟨h.1, ?_⟩
  rcases h.2 with ⟨e, _⟩ | ⟨g', cap', cur, e, hg, hh, r⟩
  · simp at e
  · refine .inr ⟨g', cap', cur, e, hg, ?_, r⟩
    rw [hb.block g' (Array.getElem?_eq_some_iff.1 hh).1]; exact hh
theorem RowC.other {w : World} {base g n cap g' o : Nat} {xs : List Nat} {v : Value} (h : RowC w base g n cap xs) (hne : g' ≠ g) : RowC (w.setCell ⟨g', o, none⟩ v) base g n cap xs :=
  RowC.kept (row := some g') h ⟨rfl, rfl, rfl, by simp, fun k _ hk => by
    show (w.heap.modify g' _)[k]? = _
    rw [Array.getElem?_modify]
    have : g' ≠ k := fun e => hk (by rw [e])
    simp [this]⟩ (by simp [hne])
end Go.Proofs.YtenmogmdijnlhaaDoor
