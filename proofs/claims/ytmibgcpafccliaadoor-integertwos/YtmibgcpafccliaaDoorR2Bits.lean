/- The document's answers for layer 2 (swageref02): bits, bit. -/
import Derived.Test.YtmibgcpafccliaaDoorR2Law
import Derived.Test.YtmibgcpafccliaaDoorSeg
import Derived.Laws.BitsAllLaws
namespace Go.Proofs.YtmibgcpafccliaaDoor
open Go.RowKit

/-- the bits of a digit, counted one by one -/
structure DCnt (t i x : Nat) : Prop where
  eq : x = t / 2 ^ i
  pos : 1 ≤ i → 0 < t / 2 ^ (i - 1)
theorem DCnt.step {t i x : Nat} (h : DCnt t i x) (hx : 0 < x) : DCnt t (i + 1) (x / 2) :=
  ⟨by rw [h.eq, Nat.div_div_eq_div_mul, ← Nat.pow_succ], fun _ => by rw [Nat.add_sub_cancel, ← h.eq]; exact hx⟩
theorem DCnt.end {t i : Nat} (h : DCnt t i 0) : IsLen t i := by
  have hp : 0 < 2 ^ i := Nat.two_pow_pos i
  have h1 : t < 2 ^ i := by
    have := h.eq
    rcases Nat.lt_or_ge t (2 ^ i) with h' | h'
    · exact h'
    · have := Nat.div_pos h' hp; omega
  refine ⟨h1, fun ht => ?_⟩
  rcases Nat.eq_zero_or_pos i with e | e
  · rw [e] at h1; simp at h1; omega
  · have := h.pos e
    exact ⟨e, (Nat.div_pos_iff.1 this).2⟩
theorem dbb_pow (n : Nat) : D.BB ^ n = 2 ^ (16 * n) := by rw [show D.BB = 2 ^ 16 from rfl, ← Nat.pow_mul]
theorem dtop_div {L : List Nat} {n : Nat} (ho : D.Ok L) (h : L.length = n + 1) : D.val L / 2 ^ (16 * n) = lm L n := by
  have e : D.val L = D.val (L.take n) + 65536 ^ n * lm L n := by rw [← dtake_succ, List.take_of_length_le (by omega)]
  have hl := D.val_lt (ho.take n)
  rw [List.length_take, Nat.min_eq_left (by omega), dbb_pow] at hl
  have hB : 65536 ^ n = 2 ^ (16 * n) := dbb_pow n
  rw [hB] at e
  rw [e, Nat.add_mul_div_left _ _ (Nat.two_pow_pos _), Nat.div_eq_of_lt hl, Nat.zero_add]
theorem ddrop_div (xs : List Nat) (k : Nat) (h : D.Ok xs) : D.val xs / 65536 ^ k = D.val (xs.drop k) := by
  rcases Nat.lt_or_ge k xs.length with hk | hk
  · have e := D.val_append (xs.take k) (xs.drop k)
    rw [List.take_append_drop, List.length_take, Nat.min_eq_left (by omega)] at e
    have hl := D.val_lt (h.take k)
    rw [List.length_take, Nat.min_eq_left (by omega)] at hl
    show D.val xs / D.BB ^ k = _
    rw [e, Nat.add_mul_div_left _ _ (Nat.pow_pos D.BB_pos), Nat.div_eq_of_lt hl, Nat.zero_add]
  · rw [List.drop_of_length_le hk]
    show D.val xs / D.BB ^ k = _
    rw [Nat.div_eq_of_lt (Nat.lt_of_lt_of_le (D.val_lt h) (Nat.pow_le_pow_right D.BB_pos hk))]; rfl
theorem ddrop_val' (xs : List Nat) (k : Nat) (h : k < xs.length) : D.val (xs.drop k) = lm xs k + 65536 * D.val (xs.drop (k + 1)) := by
  rw [List.drop_eq_getElem_cons h, lm_get _ _ h]; simp [D.val, D.BB]
theorem ddigit (xs : List Nat) (k : Nat) (h : D.Ok xs) : D.val xs / 65536 ^ k % 65536 = lm xs k := by
  rw [ddrop_div xs k h]
  rcases Nat.lt_or_ge k xs.length with hk | hk
  · rw [ddrop_val' xs k hk, Nat.add_mul_mod_self_left, Nat.mod_eq_of_lt (dlm_lt h k)]
  · rw [List.drop_of_length_le hk, lm_over _ _ hk]; rfl
theorem dbit_val (xs : List Nat) (k : Nat) (h : D.Ok xs) : D.val xs / 2 ^ k % 2 = lm xs (k / 16) / 2 ^ (k % 16) % 2 := by
  have e : (2 : Nat) ^ k = 65536 ^ (k / 16) * 2 ^ (k % 16) := by
    rw [show (65536 : Nat) = 2 ^ 16 from rfl, ← Nat.pow_mul, ← Nat.pow_add, Nat.div_add_mod]
  rw [e, ← Nat.div_div_eq_div_mul, ← ddigit xs (k / 16) h]
  generalize D.val xs / 65536 ^ (k / 16) = y
  have hk : k % 16 < 16 := Nat.mod_lt _ (by decide)
  generalize k % 16 = s at hk
  obtain ⟨r, hr⟩ : ∃ r, 65536 = 2 ^ s * (2 * r) := ⟨2 ^ (15 - s), by
    rw [← Nat.pow_succ', ← Nat.pow_add, show s + (15 - s + 1) = 16 from by omega]⟩
  have h2 := Nat.div_add_mod y 65536
  have h3 : y / 2 ^ s = y % 65536 / 2 ^ s + 2 * r * (y / 65536) := by
    have : y = y % 65536 + 2 ^ s * (2 * r * (y / 65536)) := by rw [← Nat.mul_assoc, ← hr]; omega
    conv => lhs; rw [this]
    rw [Nat.add_mul_div_left _ _ (Nat.two_pow_pos s)]
  rw [h3, Nat.mul_assoc]
  omega
theorem dand_one (m : Nat) (h : m < 4294967296) : bits .and .u32 (m : Int) 1 = ((m % 2 : Nat) : Int) := by
  have := u32_and_nat m 1 h (by decide)
  rw [Nat.and_one_is_mod] at this
  exact this

set_option maxRecDepth 100000 in
set_option maxHeartbeats 1000000 in
theorem rbits2_any (v : Value) (m : Nat) (w : World) (h : Nums w v (D.lim m)) (hlen : (D.lim m).length ≤ 100000000) :
    Calls Tryd.prog 62 #[v] w fun e w' => ∃ L : Nat, e = .returned (.int .i64 (L : Nat)) ∧ IsLen m L ∧ L ≤ 16 * (D.lim m).length ∧ w' = w := by
  obtain ⟨_, a, cap, rfl, hl1, hm1, hc1⟩ := h
  unfold maxLen at hm1
  have HC := hide hc1
  clear hc1
  by_cases hz : m = 0
  · subst hz
    rw [D.lim_zero]
    go_enter Tryd.func62, Tryd.ntmps62
    go_wp2
    go_ret
    exact ⟨0, rfl, ⟨by decide, fun h => absurd h (by decide)⟩, Nat.zero_le _, rfl⟩
  · have hp : 0 < (D.lim m).length := by rw [D.lim_pos (Nat.pos_of_ne_zero hz)]; simp
    have hlz : ((((D.lim m).length : Nat) : Int) == 0) = false := by rw [beq_eq_false_iff_ne]; omega
    have HT := hide (dtop_div (L := D.lim m) (n := (D.lim m).length - 1) (D.ok_lim m) (by omega))
    rw [D.val_lim] at HT
    have HTOP := hide (dlim_last hp)
    have HOK := hide (D.ok_lim m)
    clear hz
    generalize D.lim m = L at *
    obtain ⟨b, off, rfl, hx⟩ := HC.out (ne_nil (k := L.length - 1) (by omega))
    have hxt := hx (L.length - 1) (by omega)
    have htb := dlm_lt HOK.out (L.length - 1)
    clear hx HC
    go_enter Tryd.func62, Tryd.ntmps62
    go_wp2
    go_loop [3, 4] (fun nv xv => ∃ i x : Nat, i ≤ 16 ∧ nv = .int .i64 (16 * ((L.length - 1 : Nat) : Int) + (i : Int)) ∧ xv = .int .u32 x ∧ x ≤ 65535 ∧ Hid (DCnt (lm L (L.length - 1)) i x)) (fun _ xv => (intOf xv).toNat)
    case atStart => exact ⟨0, _, by omega, by congr 1; omega, rfl, by omega, ⟨by simp, fun h => absurd h (by omega)⟩⟩
    case round =>
      obtain ⟨i, x, hi, rfl, rfl, hx, hat⟩ := hrel
      by_cases hx0 : x = 0
      · subst hx0
        go_wp2
        go_ret
        have hL := hat.out.end
        rw [← HT.out] at hL
        refine ⟨16 * (L.length - 1) + i, ?_, ?_, ?_, rfl⟩
        · exact congrArg Ending.returned (congrArg (Value.int .i64) (by omega))
        · have : 0 < m / 2 ^ (16 * (L.length - 1)) := by
            rw [HT.out]
            exact Nat.pos_of_ne_zero HTOP.out
          exact hL.shift this
        · omega
      · have hxp : 0 < x := by omega
        have hi31 : i ≤ 15 := by
          rcases Nat.lt_or_ge i 16 with h | h
          · omega
          · exfalso
            have h1 := hat.out.eq
            have : lm L (L.length - 1) / 2 ^ i = 0 := Nat.div_eq_of_lt (Nat.lt_of_lt_of_le htb (Nat.pow_le_pow_right (n := 2) (by decide) h))
            omega
        go_wp2
        go_round
        case rel => exact ⟨i + 1, x / 2, by omega, congrArg (Value.int .i64) (by omega), congrArg (Value.int .u32) (by omega), by omega, hat.out.step hxp⟩
        case measure => simp [intOf]; omega

set_option maxRecDepth 100000 in
set_option maxHeartbeats 1000000 in
theorem rbit2_any (v : Value) (m k : Nat) (w : World) (h : Nums w v (D.lim m)) (hlt : k / 16 < (D.lim m).length) (hlen : (D.lim m).length ≤ 100000000) :
    Calls Tryd.prog 61 #[v, .int .i64 k] w fun e w' => e = .returned (.int .u32 ((m / 2 ^ k % 2 : Nat) : Int)) ∧ w' = w := by
  have HB := hide (dbit_val (D.lim m) k (D.ok_lim m))
  rw [D.val_lim] at HB
  have HOK := hide (D.ok_lim m)
  obtain ⟨_, a, cap, rfl, hl, hm, hc⟩ := h
  unfold maxLen at hm
  generalize D.lim m = xs at *
  have hltI : (k : Int) / 16 < (xs.length : Int) := by omega
  have hkb : k ≤ 1600000016 := by omega
  obtain ⟨b, off, rfl, hx⟩ := hc (ne_nil hlt)
  have hxc := hx (k / 16) hlt
  have hxb := dlm_lt HOK.out (k / 16)
  have hm32 : lm xs (k / 16) / 2 ^ (k % 16) < 4294967296 := Nat.lt_of_le_of_lt (Nat.div_le_self _ _) (by omega)
  have HAND := hide (dand_one _ hm32)
  clear hx hc
  go_enter Tryd.func61, Tryd.ntmps61
  go_wp2
  go_ret
  refine ⟨congrArg Ending.returned ?_, rfl⟩
  rw [HB.out]
  have e : ((lm xs (k / 16) : Int) / 2 ^ (k % 16)) = ((lm xs (k / 16) / 2 ^ (k % 16) : Nat) : Int) := by rw [Int.natCast_ediv, Int.natCast_pow]; rfl
  rw [← HAND.out, ← e]
  rfl
end Go.Proofs.YtmibgcpafccliaaDoor
