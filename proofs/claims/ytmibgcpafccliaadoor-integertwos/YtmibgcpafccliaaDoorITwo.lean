/- integer.Int's Twos, Shl, Shr. -/
import Derived.Test.YtmibgcpafccliaaDoorDivLong
import Derived.Test.YtmibgcpafccliaaDoorShr
import Derived.Test.YtmibgcpafccliaaDoorBitV
import Derived.Test.YtmibgcpafccliaaDoorRefBits
import Derived.Shelf.Spec.TrailingZeros
import Derived.Test.YtmibgcpafccliaaDoorRefSum
import Derived.Test.YtmibgcpafccliaaDoorTimes
import Derived.Laws.AppendOwnNone
import Derived.Deep.Cut
import Derived.Deep.RegionWith
import Derived.Test.YtmibgcpafccliaaDoorCalm
import Derived.Test.YtmibgcpafccliaaDoorIOps
import Derived.Test.YtmibgcpafccliaaDoorCalm3
namespace Go.Proofs.YtmibgcpafccliaaDoor
open Go.RowKit

theorem shl_parts (L P : List Nat) (n : Nat) (h : val P = val L * 2 ^ (n % 32)) : val (List.replicate (n / 32) 0 ++ P) = val L * 2 ^ n := by
  rw [val_append, val_replicate, Nat.zero_add, List.length_replicate, h]
  have e : BB ^ (n / 32) = 2 ^ (32 * (n / 32)) := by rw [Nat.pow_mul]; rfl
  rw [e, Nat.mul_left_comm, ← Nat.pow_add]
  congr 2
  omega

theorem apart_nil {a : Option Addr} {n c g : Nat} {xs : List Nat} (h : xs = []) : Apart (.slice a n c) xs g := fun hne => absurd h hne
set_option maxRecDepth 100000 in
set_option maxHeartbeats 2000000 in
theorem shl_any (v : Value) (xs : List Nat) (n : Nat) (w : World) (h : Nums w v xs) (hn : n ≤ 65536) (hlen : xs.length ≤ 1000000) :
    Calls Tryd.prog 9 #[v, .int .i64 n] w fun e w' => ∃ v', e = .returned (.tuple #[v', .int .i64 0]) ∧ Nums w' v' (lim (val xs * 2 ^ n)) ∧ Below w.heap.size w w' := by
  have le1 := lim_val_length h.ok
  have HV := hide (val_lim (val xs))
  have HOKL := hide (ok_lim (val xs))
  go_enter Tryd.func9, Tryd.ntmps9
  go_wp2_with fail
  refine (trim_any v xs _ h).mono ?_
  rintro e w1 ⟨v1, rfl, rfl, hN1, _⟩
  clear h
  have HN := hide hN1
  obtain ⟨ho1, a1, c1, rfl, hl1, hm1, hc1⟩ := hN1
  unfold maxLen at hm1
  clear hc1 ho1
  generalize lim (val xs) = L at *
  have hmk := fun w => run_make32 (n / 32 + L.length + 1) (by omega) ((n : Int) / 32 + (L.length : Int) + 1) (by omega) w
  go_wp2_with fail
  rw [show n / 32 + L.length + 1 - n / 32 = L.length + 1 from by omega, show ((n : Int) % 32) = ((n % 32 : Nat) : Int) from by omega]
  have SG := seg_new w (n / 32 + L.length + 1) (by omega)
  have HB := hide (below_alloc w (.cells (ints (fil [] (n / 32 + L.length + 1))).toArray 32))
  have hap : Apart (.slice a1 L.length c1) L w.heap.size := by
    rcases HN.out.cases with ⟨e, _⟩ | ⟨_, b, off, c, e, _, _, hb, _⟩
    · exact apart_nil e
    · cases e; exact apart_old (w := w) hb (Nat.le_refl _)
  have HP := hide (shl_parts L)
  generalize hW : w.alloc (.cells (ints (fil [] (n / 32 + L.length + 1))).toArray 32) = W0 at *
  obtain ⟨R1, hR1, hRl⟩ : ∃ R1 : List Nat, R1 = List.replicate (n / 32) 0 ∧ R1.length = n / 32 := ⟨_, rfl, by simp⟩
  have hfil : fil [] (n / 32 + L.length + 1) = R1 ++ (fil [] (L.length + 1) ++ []) := by rw [hR1]; simp [fil, Nat.add_assoc, ← List.replicate_append_replicate]
  rw [hfil] at SG
  have HS := hide SG
  have HR1 := hide hR1
  have hs32 : n % 32 < 32 := by omega
  clear SG hfil hW hR1
  generalize hlow : n / 32 = low at *
  have HLOW := hide hlow
  clear hlow
  subst hRl
  refine (shiftInto_any _ L 0 w.heap.size (R1.length + L.length + 1) (R1.length + L.length + 1) _ (n % 32) R1 (fil [] (L.length + 1)) [] _ (HN.out.below HB.out) hap hs32 HS.out (by simp [fil]) (by have := HLOW.out; omega)).mono ?_
  rintro e W1 ⟨rfl, P, hPl, oP, hPv, hsg, hg1⟩
  rw [List.append_nil] at hsg
  have HB1 := hide (below_gb HB.out hg1 (Nat.le_refl _))
  have oR : Ok (R1 ++ P) := (by rw [HR1.out]; exact fun x hx => by rw [List.eq_of_mem_replicate hx]; exact BB_pos : Ok R1).append oP
  have HNN := hide (seg_nums hsg oR)
  have HVV : Hid (val (R1 ++ P) = val xs * 2 ^ n) := hide (by have := HP.out P n hPv; rw [HLOW.out] at this; rw [HR1.out] at this ⊢; rw [← HV.out]; simpa using this)
  clear hsg hg1 oR oP hPv hPl
  go_wp2_with fail
  refine (trim_any _ (R1 ++ P) _ HNN.out).mono ?_
  rintro e W2 ⟨v2, rfl, rfl, hN2, _⟩
  rw [HVV.out] at hN2
  have HN2 := hide hN2
  clear hN2
  go_wp2
  go_ret2
  exact ⟨v2, rfl, HN2.out, HB1.out⟩

set_option maxRecDepth 100000 in
set_option maxHeartbeats 2000000 in
theorem bit_neg (v : Value) (xs : List Nat) (k : Int) (w : World) (h : Nums w v xs) (hk : k < 0) :
    Calls Tryd.prog 13 #[v, .int .i64 k] w fun e w' => e = .returned (.bool false) ∧ w' = w := by
  obtain ⟨_, a1, c1, rfl, _, _, _⟩ := h
  go_enter Tryd.func13, Tryd.ntmps13
  go_wp2
  go_ret
  exact ⟨rfl, rfl⟩
set_option maxRecDepth 100000 in
set_option maxHeartbeats 2000000 in
theorem bit_any (v : Value) (xs : List Nat) (k : Nat) (w : World) (h : Nums w v xs) (hk : k ≤ 9223372036854775807) :
    Calls Tryd.prog 13 #[v, .int .i64 k] w fun e w' => e = .returned (.bool (bitB (val xs) k)) ∧ w' = w := by
  have HV := hide (bit_val xs k h.ok)
  have HOK := hide h.ok
  obtain ⟨_, a1, c1, rfl, hl, hm, hc⟩ := h
  unfold maxLen at hm
  by_cases hs : xs.length ≤ k / 32
  · have hsI : (xs.length : Int) ≤ (k : Int) / 32 := by omega
    clear hc
    go_enter Tryd.func13, Tryd.ntmps13
    go_wp2
    go_ret
    exact ⟨by unfold bitB; rw [HV.out, lm_over _ _ hs]; simp, rfl⟩
  · have hsI : ¬ (xs.length : Int) ≤ (k : Int) / 32 := by omega
    obtain ⟨b, off, rfl, hx⟩ := hc (ne_nil (k := k / 32) (by omega))
    have hxk := hx (k / 32) (by omega)
    have hxb := HOK.out.at (k / 32)
    unfold BB at hxb
    have hm32 : lm xs (k / 32) / 2 ^ (k % 32) < 4294967296 := Nat.lt_of_le_of_lt (Nat.div_le_self _ _) hxb
    have HAND := hide (and_one32 _ hm32)
    clear hx hc
    go_enter Tryd.func13, Tryd.ntmps13
    go_wp2
    go_ret
    refine ⟨congrArg Ending.returned (congrArg Value.bool ?_), rfl⟩
    have e : ((lm xs (k / 32) : Int) / 2 ^ (k % 32)) = ((lm xs (k / 32) / 2 ^ (k % 32) : Nat) : Int) := by rw [Int.natCast_ediv, Int.natCast_pow]; rfl
    rw [e, HAND.out]
    unfold bitB
    rw [HV.out, Bool.eq_iff_iff]
    simp only [beq_iff_eq, decide_eq_true_eq]
    omega

/-- 2^k divides it, and 2^(k+1) does not -/
def IsTwos (N k : Nat) : Prop := ∃ m, N = 2 ^ k * (2 * m + 1)
theorem IsTwos.only {N j k : Nat} (h : IsTwos N j) (h' : IsTwos N k) : j = k := by
  obtain ⟨m, rfl⟩ := h
  obtain ⟨m', e⟩ := h'
  rcases Nat.lt_trichotomy j k with l | l | l
  · obtain ⟨d, rfl⟩ : ∃ d, k = j + 1 + d := ⟨k - (j + 1), by omega⟩
    rw [Nat.pow_add, Nat.pow_succ, Nat.mul_assoc, Nat.mul_assoc] at e
    have := Nat.eq_of_mul_eq_mul_left (Nat.two_pow_pos j) e
    omega
  · exact l
  · obtain ⟨d, rfl⟩ : ∃ d, j = k + 1 + d := ⟨j - (k + 1), by omega⟩
    rw [Nat.pow_add, Nat.pow_succ, Nat.mul_assoc, Nat.mul_assoc] at e
    have := Nat.eq_of_mul_eq_mul_left (Nat.two_pow_pos k) e
    omega
theorem IsTwos.times {N k : Nat} (h : IsTwos N k) (n : Nat) : IsTwos (N * 2 ^ n) (k + n) := by
  obtain ⟨m, rfl⟩ := h
  exact ⟨m, by rw [Nat.pow_add, Nat.mul_assoc, Nat.mul_assoc]; congr 1; rw [Nat.mul_comm]⟩
/-- the table of math/bits -/
def TabW (w : World) : Prop := Go.Proofs.TabAt 0 Lib.deBruijn32tab w
theorem TabW.below {w w' : World} (h : TabW w) (hb : Below w.heap.size w w') : TabW w' := fun j hj => (hb.cell (World.block_lt_of_cell? w _ (h j hj))).trans (h j hj)

set_option maxRecDepth 100000 in
set_option maxHeartbeats 2000000 in
theorem tz32_core (x k idx : Nat) (w : World) (hx0 : ((x : Int) == 0) = false) (key : bits BinOp.and IntKind.u32 (x : Int) (-(x : Int) % 4294967296) * 125613361 % 4294967296 / 134217728 = (idx : Int)) (hi : idx < 32) (hk : k < 32)
    (hcell : w.cell? ⟨0, idx, none⟩ = some (.int .u8 k)) :
    Calls Tryd.prog 49 #[.int .u32 x] w fun e w' => e = .returned (.int .i64 (k : Nat)) ∧ w' = w := by
  go_enter Tryd.func49, Tryd.ntmps49
  go_wp2_with (simp only [key])
  go_ret
  exact ⟨rfl, rfl⟩
theorem tz32_any (x : Nat) (w : World) (hx : x < 4294967296) (hx0 : x ≠ 0) (hT : TabW w) :
    Calls Tryd.prog 49 #[.int .u32 x] w fun e w' => ∃ k : Nat, e = .returned (.int .i64 (k : Nat)) ∧ IsTwos x k ∧ k < 32 ∧ w' = w := by
  obtain ⟨hlow, hk⟩ := Lib.lowest_bit 32 x hx0 hx
  obtain ⟨hi, htab⟩ := Lib.deBruijn32_at _ hk
  have hcell := hT _ hi
  rw [htab] at hcell
  obtain ⟨m, hm, _⟩ := Lib.ctzFrom_spec 32 x (Nat.pos_of_ne_zero hx0) hx
  have ec : Lib.ctz 32 x = Lib.ctzFrom 32 x := by simp [Lib.ctz, hx0]
  rw [← ec] at hm
  refine (tz32_core x _ _ w (by simp; exact hx0) (Go.Proofs.tz32_key x _ hx hx0 hlow) hi hk hcell).mono ?_
  rintro e w' ⟨rfl, rfl⟩
  exact ⟨_, rfl, ⟨m, hm⟩, hk, rfl⟩
theorem twos_step {xs : List Nat} {k : Nat} (h : ∀ i, i < k → lm xs i = 0) : val xs = BB ^ k * val (xs.drop k) := by
  induction k with
  | zero => simp
  | succ k ih =>
    rw [ih (fun i hi => h i (by omega)), drop_val_any xs k, h k (by omega), Nat.zero_add, Nat.pow_succ, Nat.mul_assoc]
theorem twos_at {xs : List Nat} {k j : Nat} (h : ∀ i, i < k → lm xs i = 0) (hj : IsTwos (lm xs k) j) (hj32 : j < 32) : IsTwos (val xs) (32 * k + j) := by
  obtain ⟨m, hm⟩ := hj
  have hb : BB = 2 ^ j * 2 ^ (31 - j) * 2 := by
    have : 2 ^ j * 2 ^ (31 - j) * 2 = 2 ^ 32 := by rw [← Nat.pow_add, ← Nat.pow_succ]; congr 1; omega
    rw [this]; rfl
  refine ⟨m + 2 ^ (31 - j) * val (xs.drop (k + 1)), ?_⟩
  rw [twos_step h, drop_val_any xs k, hm, Nat.pow_add, show BB ^ k = 2 ^ (32 * k) from by rw [Nat.pow_mul]; rfl, Nat.mul_assoc]
  congr 1
  rw [hb]
  grind

set_option maxRecDepth 100000 in
set_option maxHeartbeats 2000000 in
theorem twos_any (v : Value) (xs : List Nat) (w : World) (h : Nums w v xs) (hT : TabW w) (hlen : xs.length ≤ 1000000) (hne : val xs ≠ 0) :
    Calls Tryd.prog 15 #[v] w fun e w' => ∃ k : Nat, e = .returned (.int .i64 (k : Nat)) ∧ IsTwos (val xs) k ∧ k ≤ 32000000 ∧ w' = w := by
  have HOK := hide h.ok
  have HN := hide hne
  have HT := hide hT
  obtain ⟨_, a1, c1, rfl, hl, hm, hc⟩ := h
  unfold maxLen at hm
  have HC := hide hc
  clear hne hT hc
  go_enter Tryd.func15, Tryd.ntmps15
  go_wp2
  go_loopw [2, 3, 4, 7] (fun _ _ _ iv wr => ∃ k : Nat, k ≤ xs.length ∧ iv = .int .i64 k ∧ wr = w ∧ ∀ i, i < k → lm xs i = 0) (fun _ _ _ iv _ => xs.length - (intOf iv).toNat)
  case atStart => exact ⟨0, Nat.zero_le _, rfl, rfl, fun _ h => absurd h (Nat.not_lt_zero _)⟩
  case round =>
    obtain ⟨k, hk, rfl, rfl, hz⟩ := hrel
    have HZ := hide hz
    clear hz
    by_cases hlt : k < xs.length
    · obtain ⟨b, off, rfl, hx⟩ := HC.out (ne_nil hlt)
      have hxk := hx k hlt
      have hxb := HOK.out.at k
      unfold BB at hxb
      clear hx
      by_cases h0 : lm xs k = 0
      · have hne : (((lm xs k : Nat) : Int) != 0) = false := by simp; omega
        have H0 := hide h0
        clear h0
        go_wp2
        go_roundw
        case rel => exact ⟨k + 1, by omega, by go_num, by first | rfl | trivial, fun i hi => by rcases Nat.lt_succ_iff_lt_or_eq.1 hi with h | rfl; exact HZ.out i h; exact H0.out⟩
        case measure => simp [intOf]; omega
      · have hne : (((lm xs k : Nat) : Int) != 0) = true := by simp; omega
        go_wp2_with fail
        refine (tz32_any (lm xs k) _ hxb h0 HT.out).mono ?_
        rintro e w1 ⟨j, rfl, hj, hj32, rfl⟩
        have HJ := hide hj
        clear hj
        go_wp2
        go_ret
        exact ⟨32 * k + j, congrArg Ending.returned (congrArg (Value.int .i64) (by omega)), twos_at HZ.out HJ.out hj32, by omega, rfl⟩
    · have e : k = xs.length := by omega
      subst e
      exact absurd (by rw [twos_step HZ.out, List.drop_length]; simp [val]) HN.out
theorem lim_lastL {n : Nat} (h : 0 < n) : lm (lim n) ((lim n).length - 1) ≠ 0 := by
  revert h
  refine lim_ind (p := fun n => 0 < n → lm (lim n) ((lim n).length - 1) ≠ 0) (fun h => absurd h (by decide)) (fun n hn ih _ => ?_) n
  rw [lim_pos hn]
  by_cases h0 : n / BB = 0
  · rw [h0, lim_zero]
    have : n % BB = n := Nat.mod_eq_of_lt ((Nat.div_eq_zero_iff_lt BB_pos).1 h0)
    simp [lm, this]; omega
  · have := ih (Nat.pos_of_ne_zero h0)
    obtain ⟨m, hm⟩ : ∃ m, (lim (n / BB)).length = m + 1 := ⟨(lim (n / BB)).length - 1, by rw [lim_pos (Nat.pos_of_ne_zero h0)]; simp⟩
    rw [List.length_cons, hm]
    rw [hm] at this
    simpa [lm] using this
theorem IsLen.onlyL {x L M : Nat} (h : IsLen x L) (k : IsLen x M) (hx : 0 < x) : L = M := by
  obtain ⟨h1, h2⟩ := h
  obtain ⟨k1, k2⟩ := k
  have h3 := (h2 hx)
  have k3 := (k2 hx)
  have a := (Nat.pow_lt_pow_iff_right (a := 2) (by decide)).1 (Nat.lt_of_le_of_lt h3.2 k1)
  have b := (Nat.pow_lt_pow_iff_right (a := 2) (by decide)).1 (Nat.lt_of_le_of_lt k3.2 h1)
  omega

set_option maxRecDepth 100000 in
set_option maxHeartbeats 1000000 in
theorem lbitsX_any (v : Value) (xs : List Nat) (w : World) (h : Nums w v xs) (hlen : xs.length ≤ 1000000) :
    Calls Tryd.prog 11 #[v] w fun e w' => ∃ L : Nat, e = .returned (.int .i64 (L : Nat)) ∧ IsLen (val xs) L ∧ L ≤ 32000000 ∧ w' = w := by
  have HN := hide h
  have hle := lim_val_length h.ok
  clear h
  obtain ⟨m, hm⟩ : ∃ m, val xs = m := ⟨_, rfl⟩
  rw [hm] at hle ⊢
  have HM := hide hm
  clear hm
  go_enter Tryd.func11, Tryd.ntmps11
  go_wp2_with fail
  refine (trim_any _ _ _ HN.out).mono ?_
  rintro e w2 ⟨v3, rfl, rfl, hN3, hcut⟩
  rw [HM.out] at hN3
  clear HN HM
  obtain ⟨_, a, cap, rfl, hl1, hm1, hc1⟩ := hN3
  unfold maxLen at hm1
  have HC := hide hc1
  clear hc1 hcut
  by_cases hz : m = 0
  · subst hz
    rw [lim_zero]
    go_wp2
    go_ret
    exact ⟨0, rfl, ⟨by decide, fun h => absurd h (by decide)⟩, Nat.zero_le _, rfl⟩
  · have hp : 0 < (lim m).length := by rw [lim_pos (Nat.pos_of_ne_zero hz)]; simp
    have hlz : ((((lim m).length : Nat) : Int) == 0) = false := by rw [beq_eq_false_iff_ne]; omega
    have HT := hide (val_top_div (L := lim m) (n := (lim m).length - 1) (ok_lim m) (by omega))
    rw [val_lim] at HT
    have HTOP := hide (lim_lastL (Nat.pos_of_ne_zero hz))
    have HOK := hide (ok_lim m)
    clear hz
    generalize lim m = L at *
    obtain ⟨b, off, rfl, hx⟩ := HC.out (ne_nil (k := L.length - 1) (by omega))
    have hxt := hx (L.length - 1) (by omega)
    have htb := HOK.out.at (L.length - 1)
    unfold BB at htb
    clear hx HC
    go_wp2_with fail
    refine (len32_any _ _ (by omega) (by omega)).mono ?_
    rintro e w3 ⟨N, rfl, hN, hNb, rfl⟩
    have HNN := hide hN
    clear hN
    go_wp2
    go_ret
    refine ⟨32 * (L.length - 1) + N, congrArg Ending.returned (congrArg (Value.int .i64) (by omega)), ?_, by omega, rfl⟩
    have hL := HNN.out
    rw [show ((lm L (L.length - 1) : Nat) : Int).toNat = lm L (L.length - 1) from Int.toNat_natCast _, ← HT.out] at hL
    exact hL.shift (by rw [HT.out]; exact Nat.pos_of_ne_zero HTOP.out)
theorem bit_top {N L : Nat} (h : IsLen N L) (hN : 0 < N) : 1 ≤ L ∧ bitB N (L - 1) = true := by
  obtain ⟨h1, h2⟩ := h
  obtain ⟨h3, h4⟩ := h2 hN
  refine ⟨h3, ?_⟩
  have e : N / 2 ^ (L - 1) = 1 := by
    refine Nat.div_eq_of_lt_le (by omega) ?_
    have : 2 ^ L = (1 + 1) * 2 ^ (L - 1) := by rw [← Nat.pow_succ']; congr 1; omega
    omega
  unfold bitB; rw [e]; rfl
theorem bit_low (N n : Nat) (hn : 0 < n) : bitB (N * 2 ^ n) (n - 1) = false := by
  have e : N * 2 ^ n / 2 ^ (n - 1) = N * 2 := by
    rw [show 2 ^ n = 2 * 2 ^ (n - 1) from by rw [← Nat.pow_succ']; congr 1; omega, ← Nat.mul_assoc]
    exact Nat.mul_div_cancel _ (Nat.two_pow_pos _)
  unfold bitB; rw [e, Nat.mul_mod_left]; rfl
theorem len_times {N L n : Nat} (h : IsLen N L) (hN : 0 < N) : IsLen (N * 2 ^ n) (L + n) := by
  have e : N * 2 ^ n / 2 ^ n = N := Nat.mul_div_cancel _ (Nat.two_pow_pos _)
  have := IsLen.shift (x := N * 2 ^ n) (b := n) (L := L) (by rw [e]; exact h) (by rw [e]; exact hN)
  rw [Nat.add_comm]; exact this
end Go.Proofs.YtmibgcpafccliaaDoor

namespace Go.Proofs.YtmibgcpafccliaaDoor
open Go.RowKit

theorem TimesAt.end {xs acc : List Nat} {c k : Nat} (h : TimesAt xs c 0 k 0 acc) (h1 : xs.length ≤ k) : val acc = c * val xs := by
  have := h.sum
  rw [List.take_of_length_le h1] at this
  simpa using this

theorem times_meas (L k q q' : Nat) (hq : q' < 4294967296) (h : k < L ∨ q' < q) : 4294967296 * (L - (k + 1)) + q' < 4294967296 * (L - k) + q := by
  rcases h with h | h
  · have : L - k = (L - (k + 1)) + 1 := by omega
    omega
  · have : L - (k + 1) ≤ L - k := by omega
    omega

set_option maxRecDepth 100000 in
set_option maxHeartbeats 1000000 in
theorem rmulSmall_any (v : Value) (xs : List Nat) (c : Nat) (w : World) (h : Nums w v xs) (hc : c < 4294967296) (b1 : xs.length ≤ 100000000) :
    Calls Tryd.prog 50 #[v, .int .u32 c] w fun e w' => ∃ v', e = .returned v' ∧ Own w' w.heap.size v' (lim (val xs * c)) ∧ Below w.heap.size w w' := by
  obtain ⟨i0, hi, hz0, hz1, hz2⟩ := info_parts Tryd.info32
  have HN1 := hide h
  have HO1 := hide h.ok
  have HCB : Hid (c < BB) := hc
  obtain ⟨_, a1, c1, rfl, hl1, hm1, _⟩ := h
  unfold maxLen at hm1
  go_enter Tryd.func50, Tryd.ntmps50
  go_wp2
  go_loopw [5, 6, 7] (fun ov qv iv wr => ∃ (k q : Nat) (acc : List Nat), (k ≤ xs.length ∨ q = 0) ∧ k ≤ xs.length + 1 ∧ iv = .int .i64 k ∧ qv = .int .u64 q ∧ TimesAt xs c 0 k q acc ∧ Own wr w.heap.size ov acc ∧ Below w.heap.size w wr) (fun _ qv iv _ => 4294967296 * (xs.length + 1 - (intOf iv).toNat) + (intOf qv).toNat)
  case atStart => exact ⟨0, 0, [], .inl (Nat.zero_le _), by omega, rfl, rfl, TimesAt.zero _ _ _ BB_pos, World.ownsRow_nil _ _ _ _, Below.refl _ _⟩
  case round =>
    obtain ⟨k, q, acc, hkc, hk, rfl, rfl, hat, hO, hB⟩ := hrel
    have HKC := hide hkc
    clear hkc
    have hq := hat.q1
    have hal : acc.length ≤ xs.length + 1 := by rw [hat.len]; exact hk
    have HAT := hide hat
    have HO := hide hO
    have HB := hide hB
    have hsz := hB.size
    unfold BB at hq
    clear hat hO hB
    by_cases hgo : k < xs.length ∨ 0 < q
    · have hkk : k ≤ xs.length := by have h3 := HKC.out; omega
      have hx := HO1.out.at k
      have hmul := mul_boundI (lm xs k) c hx HCB.out
      obtain ⟨hm0, hmm⟩ := hmul
      have HST := hide (HAT.out.step hx HCB.out)
      unfold BB at hx
      have hca : ∀ P : Prop, (k < xs.length → P) → (¬ k < xs.length → 0 < q → P) → P := by
        intro P p1 p2
        by_cases e1 : k < xs.length
        · exact p1 e1
        · exact p2 e1 (by omega)
      clear hgo
      refine hca _ (fun g1 => ?_) (fun g1 g2 => ?_)
      all_goals
        clear hca
        go_wp2_with fail
        refine (rat_any _ xs k _ (HN1.out.below (HB.out)) (by omega)).mono ?_
        rintro e w5 ⟨rfl, rfl⟩
        go_wp2_with (at_builtin; refine wpList_append_own _ rfl _ _ 22 rfl w.heap.size 32 i0 (.int .u32 0) 1 4 Tryd.underlying22 hi hz0 hz1 hz2 rfl (by decide) _ _ _ rfl (World.ownsRow.alloc HO.out _) ⟨_, 0, none⟩ 1 1 [.int .u32 (((q : Int) + (lm xs k : Int) * (c : Int)) % 4294967296)] rfl rfl ?_ ?_ ?_ ?_ ?_ ?_)
        · intro i u hi'
          match i, hi' with
          | 0, hi' => simp at hi'; subst hi'; simp [Addr.add]
        · intro u hu; simp at hu; subst hu; rfl
        · unfold maxLen; omega
        · omega
        · simp; omega
        · intro v6 w6 hown6 hgrow6 _
          obtain ⟨hO6, hB6⟩ := append_own_step (n := (q + lm xs k * c) % BB) (by rw [← Int.natCast_mul]; unfold BB; omega) HO.out hown6 hgrow6 HB.out (Nat.le_refl _)
          clear hown6 hgrow6
          go_wp2
          go_roundw
          case rel => exact ⟨k + 1, (q + lm xs k * c) / BB, _, by first | (left; omega) | (right; rw [lm_over xs k (by omega)]; unfold BB; omega), by omega, by go_num, congrArg (Value.int .u64) (by rw [← Int.natCast_mul]; unfold BB; omega), HST.out, hO6, hB6⟩
          case measure =>
            have hq2 := HST.out.q1
            have e1 : (((q : Int) + (lm xs k : Int) * (c : Int)) / 4294967296).toNat = (q + lm xs k * c) / BB := by rw [← Int.natCast_mul]; unfold BB; omega
            simp only [intOf]
            rw [e1]
            have e2 : ((k : Int) + 1).toNat = k + 1 := by omega
            rw [e2, Int.toNat_natCast, Int.toNat_natCast]
            refine times_meas _ _ _ _ hq2 ?_
            first | (left; omega) | (right; rw [lm_over xs k (by omega)]; unfold BB; omega)
    · have HE : Hid (q = 0) := by show q = 0; omega
      have g1 : ¬ k < xs.length := by omega
      have g3 : ¬ 0 < q := by omega
      clear hgo
      go_wp2_with fail
      refine (rnorm_any _ acc _ (HO.out.nums HAT.out.ok) (by omega)).mono ?_
      rintro e w5 ⟨v5, rfl, hO5, hb5⟩
      go_wp2
      go_ret
      have hv : val acc = c * val xs := TimesAt.end (by have := HAT.out; rw [HE.out] at this; exact this) (by omega)
      rw [hv, Nat.mul_comm] at hO5
      exact ⟨_, rfl, hO5.mono hsz, HB.out.trans (hb5.mono hsz)⟩
end Go.Proofs.YtmibgcpafccliaaDoor

namespace Go.Proofs.YtmibgcpafccliaaDoor
open Go.RowKit

/-- k bits to go -/
structure BitAt (x y k : Nat) (Q R : List Nat) : Prop where
  okQ : Ok Q
  okR : Ok R
  sum : val Q * y + val R = x / 2 ^ k
  lt : val R < y

theorem half_bit (x k : Nat) : x / 2 ^ k = 2 * (x / 2 ^ (k + 1)) + (bitB x k).toNat := by
  have e : x / 2 ^ (k + 1) = x / 2 ^ k / 2 := by rw [Nat.pow_succ, Nat.div_div_eq_div_mul]
  rw [e]
  unfold bitB
  by_cases h : x / 2 ^ k % 2 = 1
  · simp [h]; omega
  · simp [h]; omega

theorem BitAt.yes {x y k : Nat} {Q R Q' R1 R2 : List Nat} (h : BitAt x y (k + 1) Q R) (hR1 : val R1 = 2 * val R + (bitB x k).toNat) (hf : y ≤ val R1) (hR2 : val R2 = val R1 - y) (hQ : val Q' = 2 * val Q + 1) (oQ : Ok Q') (oR : Ok R2) : BitAt x y k Q' R2 := by
  have hs := h.sum
  have hl := h.lt
  have hb : (bitB x k).toNat ≤ 1 := by cases bitB x k <;> decide
  refine ⟨oQ, oR, ?_, by omega⟩
  rw [half_bit, ← hs, hQ, hR2]
  have : (2 * val Q + 1) * y = 2 * (val Q * y) + y := by rw [Nat.add_mul, Nat.one_mul, Nat.mul_assoc]
  omega

theorem BitAt.no {x y k : Nat} {Q R Q' R1 : List Nat} (h : BitAt x y (k + 1) Q R) (hR1 : val R1 = 2 * val R + (bitB x k).toNat) (hf : ¬ y ≤ val R1) (hQ : val Q' = 2 * val Q + 0) (oQ : Ok Q') (oR : Ok R1) : BitAt x y k Q' R1 := by
  have hs := h.sum
  refine ⟨oQ, oR, ?_, by omega⟩
  rw [half_bit, ← hs, hQ, hR1]
  have : (2 * val Q + 0) * y = 2 * (val Q * y) := by rw [Nat.add_zero, Nat.mul_assoc]
  omega

theorem BitAt.end {x y : Nat} {Q R : List Nat} (h : BitAt x y 0 Q R) : val Q = x / y ∧ val R = x % y := by
  have hs := h.sum
  have hl := h.lt
  rw [Nat.pow_zero, Nat.div_one] at hs
  rw [← hs, Nat.mul_comm]
  exact ⟨by rw [Nat.mul_add_div (by omega), Nat.div_eq_of_lt hl, Nat.add_zero], by rw [Nat.mul_add_mod, Nat.mod_eq_of_lt hl]⟩

theorem cmp_ge {m n : Nat} (h : n ≤ m) : 0 ≤ cmpI m n := by unfold cmpI; rw [if_neg (by omega)]; split <;> omega
theorem cmp_lt {m n : Nat} (h : ¬ n ≤ m) : cmpI m n < 0 := by unfold cmpI; rw [if_pos (by omega)]; omega

set_option maxRecDepth 100000 in
set_option maxHeartbeats 2000000 in
theorem rdivmod_any (v1 v2 : Value) (xs ys : List Nat) (w : World) (h1 : Nums w v1 xs) (h2 : Nums w v2 ys) (b1 : xs.length ≤ 1000000) (b2 : ys.length ≤ 1000000) (hy : 0 < val ys) :
    Calls Tryd.prog 51 #[v1, v2] w fun e w' => ∃ q r, e = .returned (.tuple #[q, r]) ∧ Nums w' q (lim (val xs / val ys)) ∧ Nums w' r (lim (val xs % val ys)) ∧ Below w.heap.size w w' := by
  have HN1 := hide h1
  have HY := hide hy
  have HLY := hide (lim_val_length h2.ok)
  clear hy
  go_enter Tryd.func51, Tryd.ntmps51
  go_wp2_with fail
  refine (rnorm_any v2 ys _ h2 (by omega)).mono ?_
  rintro e w1 ⟨vb, rfl, hOb, hb1⟩
  have HB0 := hide (hOb.nums (ok_lim _))
  have HA0 := hide (HN1.out.below hb1)
  have HW0 := hide hb1
  clear h1 h2 hOb hb1
  go_wp2_with fail
  refine (rbits_any v1 xs _ HA0.out (by omega)).mono ?_
  rintro e w2 ⟨n, rfl, hlen, hn, hb2⟩
  have HLEN := hide hlen
  have HB1 := hide (HB0.out.below hb2)
  have HA1 := hide (HA0.out.below hb2)
  have HW1 := hide (HW0.out.trans (hb2.mono HW0.out.size))
  clear hlen hb2 HB0 HA0 HW0
  go_wp2
  go_loopw [6, 7, 8] (fun qv rv iv wr => ∃ (k : Nat) (Q R : List Nat), k ≤ n ∧ iv = .int .i64 ((k : Int) - 1) ∧ BitAt (val xs) (val ys) k Q R ∧ Q.length ≤ n - k ∧ R.length ≤ n - k ∧ Nums wr qv Q ∧ Nums wr rv R ∧ Nums wr vb (lim (val ys)) ∧ Nums wr v1 xs ∧ Below w.heap.size w wr) (fun _ _ iv _ => (intOf iv + 1).toNat)
  case atStart => exact ⟨n, [], [], Nat.le_refl _, by go_num, ⟨Ok.nil, Ok.nil, by rw [Nat.div_eq_of_lt HLEN.out.1]; simp [val], HY.out⟩, by simp, by simp, Nums.nil_mk _ _ _ (Nat.zero_le _), Nums.nil_mk _ _ _ (Nat.zero_le _), HB1.out, HA1.out, HW1.out⟩
  case round =>
    clear HB1 HA1 HW1
    obtain ⟨k, Q, R, hk, rfl, hat, hQl, hRl, nQ, nR, nB, nA, hbel⟩ := hrel
    have HAT := hide hat
    have NQ := hide nQ
    have NR := hide nR
    have NB := hide nB
    have NA := hide nA
    have HW := hide hbel
    clear hat nQ nR nB nA hbel
    cases k with
    | zero =>
      have HE := hide HAT.out.end
      go_wp2_with fail
      refine (rnorm_any _ Q _ NQ.out (by omega)).mono ?_
      rintro e w3 ⟨vq, rfl, hOq, hb3⟩
      rw [HE.out.1] at hOq
      have NQ3 := hide (hOq.nums (ok_lim _))
      have NR3 := hide (NR.out.below hb3)
      have HW3 := hide (HW.out.trans (hb3.mono HW.out.size))
      clear hOq hb3
      go_wp2_with fail
      refine (rnorm_any _ R _ NR3.out (by omega)).mono ?_
      rintro e w4 ⟨vr, rfl, hOr, hb4⟩
      rw [HE.out.2] at hOr
      have NR4 := hide (hOr.nums (ok_lim _))
      have NQ4 := hide (NQ3.out.below hb4)
      have HW4 := hide (HW3.out.trans (hb4.mono HW3.out.size))
      clear hOr hb4
      go_wp2
      go_ret2
      exact ⟨_, _, rfl, NQ4.out, NR4.out, HW4.out⟩
    | succ k =>
      rw [show (((k + 1 : Nat) : Int) - 1) = (k : Int) from by omega]
      go_wp2_with fail
      refine (rbit_any v1 xs k _ NA.out (by omega)).mono ?_
      rintro e w3 ⟨rfl, rfl⟩
      go_wp2_with fail
      refine (rdouble_any _ R (bitB (val xs) k) _ NR.out (by omega)).mono ?_
      rintro e w4 ⟨vr, R1, rfl, hO1, oR1, hR1, hR1l, hb4⟩
      have HR1 := hide hR1
      have NR4 := hide (hO1.nums oR1)
      have OR1 := hide oR1
      have NQ4 := hide (NQ.out.below hb4)
      have NB4 := hide (NB.out.below hb4)
      have NA4 := hide (NA.out.below hb4)
      have HW4 := hide (HW.out.trans (hb4.mono HW.out.size))
      clear hO1 oR1 hR1 hb4 NQ NB NA NR HW
      have hLY := HLY.out
      by_cases hf : val ys ≤ val R1
      · have hcI : 0 ≤ cmpI (val R1) (val (lim (val ys))) := by rw [val_lim]; exact cmp_ge hf
        have HF := hide hf
        clear hf
        go_wp2_with fail
        refine (rcmp_any _ _ R1 (lim (val ys)) _ NR4.out NB4.out (by omega) (by omega)).mono ?_
        rintro e w5 ⟨rfl, rfl⟩
        go_wp2_with fail
        refine (rsub_any _ _ R1 (lim (val ys)) _ NR4.out NB4.out (by omega) (by rw [val_lim]; have := HF.out; omega)).mono ?_
        rintro e w6 ⟨vr2, rfl, hO6, hb6⟩
        rw [val_lim] at hO6
        have NR6 := hide (hO6.nums (ok_lim _))
        have NQ6 := hide (NQ4.out.below hb6)
        have NB6 := hide (NB4.out.below hb6)
        have NA6 := hide (NA4.out.below hb6)
        have HW6 := hide (HW4.out.trans (hb6.mono HW4.out.size))
        have hRl6 : (lim (val R1 - val ys)).length ≤ R1.length := lim_length_le (Nat.lt_of_le_of_lt (Nat.sub_le _ _) (val_lt OR1.out))
        clear hO6 hb6 NR4 NQ4 NB4 NA4 HW4
        go_wp2_with fail
        refine (rdouble_any _ Q _ _ NQ6.out (by omega)).mono ?_
        rintro e w7 ⟨vq, Q', rfl, hO7, oQ', hQ', hQ'l, hb7⟩
        have hQ2 : val Q' = 2 * val Q + 1 := by rw [hQ']; simp
        have HNX := hide (HAT.out.yes HR1.out HF.out (val_lim _) hQ2 oQ' (ok_lim _))
        have NQ7 := hide (hO7.nums oQ')
        have NR7 := hide (NR6.out.below hb7)
        have NB7 := hide (NB6.out.below hb7)
        have NA7 := hide (NA6.out.below hb7)
        have HW7 := hide (HW6.out.trans (hb7.mono HW6.out.size))
        clear hO7 oQ' hQ' hb7 hQ2 NR6 NQ6 NB6 NA6 HW6
        go_wp2
        go_roundw
        case rel => exact ⟨k, Q', _, by omega, by go_num, HNX.out, by omega, by omega, NQ7.out, NR7.out, NB7.out, NA7.out, HW7.out⟩
        case measure => simp [intOf]
      · have hcI : cmpI (val R1) (val (lim (val ys))) < 0 := by rw [val_lim]; exact cmp_lt hf
        have HF := hide hf
        clear hf
        go_wp2_with fail
        refine (rcmp_any _ _ R1 (lim (val ys)) _ NR4.out NB4.out (by omega) (by omega)).mono ?_
        rintro e w5 ⟨rfl, rfl⟩
        go_wp2_with fail
        refine (rdouble_any _ Q _ _ NQ4.out (by omega)).mono ?_
        rintro e w7 ⟨vq, Q', rfl, hO7, oQ', hQ', hQ'l, hb7⟩
        have hQ2 : val Q' = 2 * val Q + 0 := by
          rw [hQ']
          have : ¬ 0 ≤ cmpI (val R1) (val (lim (val ys))) := by omega
          first | simp [this] | rfl
        have HNX := hide (HAT.out.no HR1.out HF.out hQ2 oQ' OR1.out)
        have NQ7 := hide (hO7.nums oQ')
        have NR7 := hide (NR4.out.below hb7)
        have NB7 := hide (NB4.out.below hb7)
        have NA7 := hide (NA4.out.below hb7)
        have HW7 := hide (HW4.out.trans (hb7.mono HW4.out.size))
        clear hO7 oQ' hQ' hb7 hQ2 NR4 NQ4 NB4 NA4 HW4
        go_wp2
        go_roundw
        case rel => exact ⟨k, Q', R1, by omega, by go_num, HNX.out, by omega, by omega, NQ7.out, NR7.out, NB7.out, NA7.out, HW7.out⟩
        case measure => simp [intOf]
end Go.Proofs.YtmibgcpafccliaaDoor

namespace Go.Proofs.YtmibgcpafccliaaDoor
open Go.RowKit

theorem exists_twos (N : Nat) (h : 0 < N) : ∃ K, IsTwos N K := by
  obtain ⟨m, hm, _⟩ := Lib.ctzFrom_spec N N h Nat.lt_two_pow_self
  exact ⟨_, m, hm⟩
theorem twos_bit {N K : Nat} (h : IsTwos N K) : bitB N K = true := by
  obtain ⟨m, rfl⟩ := h
  unfold bitB
  rw [Nat.mul_div_cancel_left _ (Nat.two_pow_pos K)]
  simp
theorem twos_below {N K n : Nat} (h : IsTwos N K) (hn : n < K) : bitB N n = false := by
  obtain ⟨m, rfl⟩ := h
  obtain ⟨d, rfl⟩ : ∃ d, K = n + 1 + d := ⟨K - (n + 1), by omega⟩
  unfold bitB
  rw [Nat.pow_add, Nat.pow_succ, Nat.mul_assoc, Nat.mul_assoc, Nat.mul_div_cancel_left _ (Nat.two_pow_pos n)]
  simp
theorem twos_len {N K L : Nat} (h : IsTwos N K) (hL : IsLen N L) : K < L := by
  obtain ⟨m, rfl⟩ := h
  obtain ⟨h1, _⟩ := hL
  have h2 : 2 ^ K ≤ 2 ^ K * (2 * m + 1) := Nat.le_mul_of_pos_right _ (by omega)
  exact (Nat.pow_lt_pow_iff_right (a := 2) (by decide)).1 (Nat.lt_of_le_of_lt h2 h1)

set_option maxRecDepth 100000 in
set_option maxHeartbeats 1000000 in
theorem rbits_zero (v : Value) (xs : List Nat) (w : World) (h : Nums w v xs) (hlen : xs.length ≤ 1000000) (hz : val xs = 0) :
    Calls Tryd.prog 12 #[v] w fun e w' => e = .returned (.int .i64 0) ∧ Below w.heap.size w w' := by
  go_enter Tryd.func12, Tryd.ntmps12
  go_wp2_with fail
  refine (rnorm_any _ xs _ h (by omega)).mono ?_
  rintro e w1 ⟨v1, rfl, hO, hb⟩
  rw [hz, lim_zero] at hO
  have HB := hide hb
  clear hb h
  have hN := hO.nums (fun x hx => by cases hx)
  obtain ⟨_, a, c, rfl, _, _, _⟩ := hN
  clear hO
  go_wp2
  go_ret
  exact ⟨rfl, HB.out⟩
set_option maxRecDepth 100000 in
set_option maxHeartbeats 1000000 in
theorem lbits_zero (v : Value) (xs : List Nat) (w : World) (h : Nums w v xs) (hz : val xs = 0) :
    Calls Tryd.prog 11 #[v] w fun e w' => e = .returned (.int .i64 0) ∧ w' = w := by
  go_enter Tryd.func11, Tryd.ntmps11
  go_wp2_with fail
  refine (trim_any _ _ _ h).mono ?_
  rintro e w2 ⟨v3, rfl, rfl, hN3, _⟩
  rw [hz, lim_zero] at hN3
  obtain ⟨_, a, c, rfl, _, _, _⟩ := hN3
  clear h
  go_wp2
  go_ret
  exact ⟨rfl, rfl⟩
theorem lm_zero {xs : List Nat} (hz : val xs = 0) : ∀ i, lm xs i = 0 := by
  induction xs with
  | nil => intro i; simp [lm]
  | cons x xs ih =>
    intro i
    simp only [val] at hz
    have h1 : x = 0 := by omega
    have h2 : val xs = 0 := by
      have : BB * val xs = 0 := by omega
      rcases Nat.mul_eq_zero.1 this with h | h
      · unfold BB at h; omega
      · exact h
    cases i with
    | zero => simpa [lm] using h1
    | succ i => simpa [lm] using ih h2 i
set_option maxRecDepth 100000 in
set_option maxHeartbeats 2000000 in
theorem twos_zero (v : Value) (xs : List Nat) (w : World) (h : Nums w v xs) (hz : val xs = 0) :
    Calls Tryd.prog 15 #[v] w fun e w' => e = .returned (.int .i64 0) ∧ w' = w := by
  have HL := hide (lm_zero hz)
  obtain ⟨_, a1, c1, rfl, hl, hm, hc⟩ := h
  unfold maxLen at hm
  have HC := hide hc
  clear hc hz
  go_enter Tryd.func15, Tryd.ntmps15
  go_wp2
  go_loopw [2, 3, 4, 7] (fun _ _ _ iv wr => ∃ k : Nat, k ≤ xs.length ∧ iv = .int .i64 k ∧ wr = w) (fun _ _ _ iv _ => xs.length - (intOf iv).toNat)
  case atStart => exact ⟨0, Nat.zero_le _, rfl, rfl⟩
  case round =>
    obtain ⟨k, hk, rfl, rfl⟩ := hrel
    by_cases hlt : k < xs.length
    · obtain ⟨b, off, rfl, hx⟩ := HC.out (ne_nil hlt)
      have hxk := hx k hlt
      rw [HL.out k] at hxk
      clear hx
      go_wp2
      go_roundw
      case rel => exact ⟨k + 1, by omega, by go_num, by first | rfl | trivial⟩
      case measure => simp [intOf]; omega
    · have e : k = xs.length := by omega
      subst e
      go_wp2
      go_ret
      exact ⟨rfl, rfl⟩

set_option maxRecDepth 100000 in
set_option maxHeartbeats 2000000 in
theorem rtwos_zero (v : Value) (xs : List Nat) (w : World) (h : Nums w v xs) (hlen : xs.length ≤ 1000000) (hz : val xs = 0) :
    Calls Tryd.prog 16 #[v] w fun e w' => e = .returned (.int .i64 0) ∧ Below w.heap.size w w' := by
  have HN := hide h
  clear h
  go_enter Tryd.func16, Tryd.ntmps16
  go_wp2
  go_loopw [3] (fun iv wr => iv = .int .i64 0 ∧ wr = w) (fun _ _ => 0)
  case atStart => exact ⟨rfl, rfl⟩
  case round =>
    obtain ⟨rfl, rfl⟩ := hrel
    go_wp2_with fail
    refine (rbits_zero _ xs _ HN.out hlen hz).mono ?_
    rintro e w1 ⟨rfl, hb⟩
    have HB := hide hb
    clear hb
    go_wp2
    go_ret
    exact ⟨rfl, HB.out⟩
set_option maxRecDepth 100000 in
set_option maxHeartbeats 2000000 in
theorem rtwos_any (v : Value) (xs : List Nat) (K : Nat) (w : World) (h : Nums w v xs) (hlen : xs.length ≤ 1000000) (hp : 0 < val xs) (hK : IsTwos (val xs) K) :
    Calls Tryd.prog 16 #[v] w fun e w' => e = .returned (.int .i64 (K : Nat)) ∧ Below w.heap.size w w' := by
  have HN := hide h
  have HK := hide hK
  have HP := hide hp
  clear h hK
  go_enter Tryd.func16, Tryd.ntmps16
  go_wp2
  go_loopw [3] (fun iv wr => ∃ n : Nat, n ≤ K ∧ iv = .int .i64 n ∧ Below w.heap.size w wr) (fun iv _ => K - (intOf iv).toNat)
  case atStart => exact ⟨0, Nat.zero_le _, rfl, Below.refl _ _⟩
  case round =>
    obtain ⟨n, hn, rfl, hb⟩ := hrel
    have HB := hide hb
    clear hb
    go_wp2_with fail
    refine (rbits_any _ xs _ (HN.out.below HB.out) (by omega)).mono ?_
    rintro e w1 ⟨L, rfl, hL, hLb, hb⟩
    have hKL := twos_len HK.out hL
    replace HB := hide (HB.out.trans (hb.mono HB.out.size))
    clear hb hL
    have hL0 : (0 : Int) < (L : Int) := by omega
    go_wp2_with fail
    refine (rbit_any _ xs n _ (HN.out.below HB.out) (by omega)).mono ?_
    rintro e w2 ⟨rfl, rfl⟩
    by_cases hnK : n = K
    · subst hnK
      rw [twos_bit HK.out]
      go_wp2
      go_ret
      exact ⟨rfl, HB.out⟩
    · rw [twos_below HK.out (by omega)]
      go_wp2
      go_roundw
      case rel => exact ⟨n + 1, by omega, by go_num, HB.out⟩
      case measure => simp [intOf]; omega

theorem pow_word {s : Nat} (h : 2 ^ s < 4294967296) : (2 : Int) ^ s % 4294967296 = ((2 ^ s : Nat) : Int) := by
  have e : ((2 ^ s : Nat) : Int) = (2 : Int) ^ s := by rw [Int.natCast_pow]; rfl
  rw [← e]
  generalize 2 ^ s = p at *
  omega
theorem shl_mul {xs : List Nat} {n : Nat} : val (List.replicate (n / 32) 0 ++ xs) * 2 ^ (n % 32) = val xs * 2 ^ n := by
  rw [val_append, val_replicate, Nat.zero_add, List.length_replicate, show BB ^ (n / 32) = 2 ^ (32 * (n / 32)) from by rw [Nat.pow_mul]; rfl, Nat.mul_comm (2 ^ _), Nat.mul_assoc, ← Nat.pow_add]
  congr 2; omega
set_option maxRecDepth 100000 in
set_option maxHeartbeats 2000000 in
theorem rshl_any (v : Value) (xs : List Nat) (n : Nat) (w : World) (h : Nums w v xs) (hn : n ≤ 65536) (hlen : xs.length ≤ 1000000) (hnil : ∀ m c, v = .slice none m c → c = 0) :
    Calls Tryd.prog 19 #[v, .int .i64 n] w fun e w' => ∃ v', e = .returned v' ∧ Nums w' v' (lim (val xs * 2 ^ n)) ∧ Below w.heap.size w w' := by
  obtain ⟨i0, hi, hz0, hz1, hz2⟩ := info_parts Tryd.info32
  have HN := hide h
  obtain ⟨ho, a, cap, rfl, hl, hm, hc⟩ := h
  unfold maxLen at hm
  have HOK := hide ho
  have HC := hide hc
  clear ho hc
  go_enter Tryd.func19, Tryd.ntmps19
  go_wp2
  go_loopw [5, 6] (fun ov iv wr => ∃ k : Nat, k ≤ n / 32 ∧ iv = .int .i64 k ∧ Own wr w.heap.size ov (List.replicate k 0) ∧ Below w.heap.size w wr) (fun _ iv _ => n / 32 - (intOf iv).toNat)
  case atStart => exact ⟨0, Nat.zero_le _, rfl, World.ownsRow_nil _ _ _ _, Below.refl _ _⟩
  case round =>
    obtain ⟨k, hk, rfl, hO, hB⟩ := hrel
    have HO := hide hO
    have HB := hide hB
    clear hO hB
    have hsz := HB.out.size
    by_cases hlt : k < n / 32
    · have hltI : (k : Int) < (n : Int) / 32 := by omega
      have HSU : Hid (List.replicate (k + 1) 0 = List.replicate k (0 : Nat) ++ [0]) := hide List.replicate_succ'
      generalize hZ : List.replicate k (0 : Nat) = Z at *
      have hZl : Z.length = k := by rw [← hZ]; simp
      have HZ := hide hZ
      clear hZ
      subst hZl
      go_wp2_with (at_builtin; refine wpList_append_own _ rfl _ _ 22 rfl w.heap.size 32 i0 (.int .u32 0) 1 4 Tryd.underlying22 hi hz0 hz1 hz2 rfl (by decide) _ _ _ rfl (World.ownsRow.alloc HO.out _) ⟨_, 0, none⟩ 1 1 [.int .u32 ((0 : Int))] rfl rfl ?_ ?_ ?_ ?_ ?_ ?_)
      · intro i u hi'
        match i, hi' with
        | 0, hi' => simp at hi'; subst hi'; simp [Addr.add]
      · intro u hu; simp at hu; subst hu; rfl
      · unfold maxLen; omega
      · omega
      · simp; omega
      · intro v6 w6 hown6 hgrow6 _
        obtain ⟨hO6, hB6⟩ := append_own_step (n := 0) rfl HO.out hown6 hgrow6 HB.out (Nat.le_refl _)
        have HO6 := hide hO6
        have HB6 := hide hB6
        clear hown6 hgrow6 hO6 hB6
        go_wp2
        go_roundw
        case rel => exact ⟨Z.length + 1, by omega, by go_num, by rw [HSU.out]; exact HO6.out, HB6.out⟩
        case measure => simp [intOf]; omega
    · have e : k = n / 32 := by omega
      subst e
      have hltI : ¬ ((n / 32 : Nat) : Int) < (n : Int) / 32 := by omega
      have hltJ : ¬ (n : Int) / 32 < (n : Int) / 32 := by omega
      have fin : ∀ (W : World) (v6 : Value), Own W w.heap.size v6 (List.replicate (n / 32) 0 ++ xs) → Below w.heap.size w W → Hid (Nums W v6 (List.replicate (n / 32) 0 ++ xs)) ∧ Hid (Below w.heap.size w W) := fun W v6 h1 h2 =>
        ⟨h1.nums (Ok.append (show Ok (List.replicate (n / 32) 0) from fun x hx => by rw [List.eq_of_mem_replicate hx]; exact BB_pos) HOK.out), h2⟩
      have FIN := hide fin
      clear fin
      have HPL : Hid (2 ^ (n % 32) < 4294967296) := hide (Nat.lt_of_lt_of_le (Nat.pow_lt_pow_right (a := 2) (by decide) (show n % 32 < 32 by omega)) (by decide))
      have HPW : Hid ((2 : Int) ^ (n % 32) % 4294967296 = ((2 ^ (n % 32) : Nat) : Int)) := hide (pow_word HPL.out)
      cases a with
      | none =>
        have hx0 : xs = [] := by
          rcases HN.out.cases with ⟨e, _⟩ | ⟨_, b, off, c, e, _⟩
          · exact e
          · simp at e
        subst hx0
        obtain rfl := hnil _ _ rfl
        have hO6 : Own wr w.heap.size u5 (List.replicate (n / 32) 0 ++ []) := by rw [List.append_nil]; exact HO.out
        have hB6 := HB.out
        go_wp2_with (at_builtin; refine wpList_append_own_none rfl _ _ 22 rfl w.heap.size 32 i0 1 Tryd.underlying22 hi _ _ _ rfl HO.out rfl ?_)
        obtain ⟨HN6, HB6⟩ := FIN.out _ _ hO6 hB6
        clear hO6 hB6
        go_wp2_with fail
        rw [HPW.out]
        refine (rmulSmall_any _ _ (2 ^ (n % 32)) _ HN6.out HPL.out (by rw [List.length_append, List.length_replicate]; omega)).mono ?_
        rintro e w7 ⟨v7, rfl, hO7, hb⟩
        rw [shl_mul] at hO7
        have HN7 := hide (hO7.nums (ok_lim _))
        have HB7 := hide (HB6.out.trans (hb.mono HB6.out.size))
        clear hO7 hb
        go_wp2
        go_ret
        exact ⟨v7, rfl, HN7.out, HB7.out⟩
      | some ad =>
        have hnw := (HN.out.below HB.out).news
        have hlr : (List.replicate (n / 32) (0 : Nat)).length = n / 32 := by simp
        go_wp2_with (at_builtin; refine wpList_append_own _ rfl _ _ 22 rfl w.heap.size 32 i0 (.int .u32 0) 1 4 Tryd.underlying22 hi hz0 hz1 hz2 rfl (by decide) _ _ _ rfl HO.out ad _ _ (ints xs) rfl hnw.1 hnw.2 (ints_one _) ?c3 ?c4 ?c5 ?_)
        case c3 => unfold maxLen; omega
        case c4 => omega
        intro v6 w6 hown hgrow _
        have hO6 : Own w6 w.heap.size v6 (List.replicate (n / 32) 0 ++ xs) := by show World.ownsRow _ _ _ _ _ _ _; simpa [ints] using hown
        have hB6 := HB.out.grown hgrow hsz (fun k e => (World.ownsRow.lt HO.out k e).1)
        clear hown hgrow hnw hlr
        obtain ⟨HN6, HB6⟩ := FIN.out _ _ hO6 hB6
        clear hO6 hB6
        go_wp2_with fail
        rw [HPW.out]
        refine (rmulSmall_any _ _ (2 ^ (n % 32)) _ HN6.out HPL.out (by rw [List.length_append, List.length_replicate]; omega)).mono ?_
        rintro e w7 ⟨v7, rfl, hO7, hb⟩
        rw [shl_mul] at hO7
        have HN7 := hide (hO7.nums (ok_lim _))
        have HB7 := hide (HB6.out.trans (hb.mono HB6.out.size))
        clear hO7 hb
        go_wp2
        go_ret
        exact ⟨v7, rfl, HN7.out, HB7.out⟩

theorem Nums.dropN {w : World} {b off n cap : Nat} {xs : List Nat} (h : Nums w (.slice (some ⟨b, off, none⟩) n cap) xs) (k : Nat) (hk : k ≤ xs.length) : Nums w (.slice (some ⟨b, off + k, none⟩) (n - k) (cap - k)) (xs.drop k) := by
  obtain ⟨ho, a, cap', he, h1, h2, h3⟩ := h
  simp only [Value.slice.injEq] at he
  obtain ⟨rfl, rfl, rfl⟩ := he
  refine ⟨ho.drop k, _, cap - k, by rw [List.length_drop], by rw [List.length_drop]; omega, by omega, fun hne => ⟨b, off + k, rfl, fun i hi => ?_⟩⟩
  rw [List.length_drop] at hi
  obtain ⟨b', off', hb, hc⟩ := h3 (ne_nil (k := k + i) (by omega))
  simp only [Option.some.injEq, Addr.mk.injEq, and_true] at hb
  obtain ⟨rfl, rfl⟩ := hb
  have := hc (k + i) (by omega)
  rw [show off + k + i = off + (k + i) from by omega, this]
  simp [lm, List.getElem?_drop]
theorem div_parts {xs : List Nat} (n : Nat) (h : Ok xs) : val (xs.drop (n / 32)) / 2 ^ (n % 32) = val xs / 2 ^ n := (shr_val xs n h).symm
set_option maxRecDepth 100000 in
set_option maxHeartbeats 2000000 in
theorem rshr_any (v : Value) (xs : List Nat) (n : Nat) (w : World) (h : Nums w v xs) (hn : n ≤ 9223372036854775807) (hlen : xs.length ≤ 1000000) :
    Calls Tryd.prog 20 #[v, .int .i64 n] w fun e w' => ∃ v', e = .returned v' ∧ Nums w' v' (lim (val xs / 2 ^ n)) ∧ Below w.heap.size w w' := by
  have HN := hide h
  have HOK := hide h.ok
  have HDV := hide (div_parts (xs := xs) n h.ok)
  by_cases hz : val xs = 0
  · obtain ⟨_, a, cap, rfl, hl, hm, hc⟩ := h
    clear hc
    go_enter Tryd.func20, Tryd.ntmps20
    go_wp2_with fail
    refine (rbits_zero _ xs _ HN.out hlen hz).mono ?_
    rintro e w1 ⟨rfl, hb⟩
    have HB := hide hb
    have HZ := hide hz
    clear hb hz
    have hn0 : (0 : Int) ≤ (n : Int) := by omega
    go_wp2
    go_ret
    exact ⟨_, rfl, by rw [HZ.out, Nat.zero_div, lim_zero]; exact Nums.nil_mk _ _ _ (Nat.zero_le _), HB.out⟩
  · obtain ⟨_, a, cap, rfl, hl, hm, hc⟩ := h
    unfold maxLen at hm
    have HC := hide hc
    have HZ := hide hz
    clear hc hz
    go_enter Tryd.func20, Tryd.ntmps20
    go_wp2_with fail
    refine (rbits_any _ xs _ HN.out (by omega)).mono ?_
    rintro e w1 ⟨L, rfl, hL, hLb, hb⟩
    have HB := hide hb
    have HL := hide hL
    clear hb hL
    by_cases hge : L ≤ n
    · have hgeI : (L : Int) ≤ (n : Int) := by omega
      go_wp2
      go_ret
      refine ⟨_, rfl, ?_, HB.out⟩
      have e0 : val xs / 2 ^ n = 0 := Nat.div_eq_of_lt (Nat.lt_of_lt_of_le HL.out.1 (Nat.pow_le_pow_right (by decide) hge))
      rw [e0, lim_zero]; exact Nums.nil_mk _ _ _ (Nat.zero_le _)
    · have hgeI : ¬ (L : Int) ≤ (n : Int) := by omega
      have hlow : n / 32 < xs.length := by omega
      obtain ⟨b, off, rfl, hx⟩ := HC.out (ne_nil hlow)
      have hb1 : b < w.heap.size := World.block_lt_of_cell? w _ (hx (n / 32) hlow)
      clear hx
      obtain ⟨m, hm0⟩ : ∃ m, m = n / 32 := ⟨_, rfl⟩
      obtain ⟨s, hs0⟩ : ∃ s, s = n % 32 := ⟨_, rfl⟩
      obtain ⟨P, hP0⟩ : ∃ P, P = 2 ^ s := ⟨_, rfl⟩
      have hPL : P < 4294967296 := by rw [hP0, hs0]; exact Nat.lt_of_lt_of_le (Nat.pow_lt_pow_right (a := 2) (by decide) (show n % 32 < 32 by omega)) (by decide)
      have HPP : Hid (0 < P) := hide (by rw [hP0]; exact Nat.two_pow_pos _)
      have hW2 : IntKind.i64.wrap ((n : Int) / 32) = (m : Int) := by
        rw [show (n : Int) / 32 = (m : Int) from by omega, IntKind.wrap_i64]; omega
      have hT : (n : Int).tmod 32 = (s : Int) := by rw [hs0]; exact (Int.ofNat_tmod n 32).symm
      have hS : min s 32 = s := by omega
      have hW3 : IntKind.u32.wrap ((2 : Int) ^ s) = (P : Int) := by
        rw [show (2 : Int) ^ s = ((2 ^ s : Nat) : Int) from by rw [Int.natCast_pow]; rfl, ← hP0, IntKind.wrap_u32]; omega
      have HD : Hid (Nums w (.slice (some ⟨b, off + m, none⟩) (xs.length - m) (cap - m)) (xs.drop m)) := hide (HN.out.dropN m (by omega))
      have HPL := hide hPL
      have HDW : Hid (val (xs.drop m) / P = val xs / 2 ^ n) := hide (by rw [hP0, hm0, hs0]; exact HDV.out)
      have hm1 : m ≤ xs.length := by omega
      have hm2 : ¬ cap = m := by omega
      clear hP0 hm0 hs0 hPL hlow
      go_upto_region 3 with fail
      refine wp_calm (fun w' => Below w1.heap.size w1 w') (fun _ => true) 14 #[false, false, false, false, false, false, false, false, false, false, false, false, false, false] (by kernel_rfl) rfl rfl ?_
      have HF := hide ((Below.refl w1.heap.size w1).drew)
      generalize w1.drew = w1d at *
      refine Calm.take (i := 0) (v := ?_) (a' := ?_) (l' := #[true, false, false, false, false, false, false, false, false, false, false, false, false, false]) (d := some 12) rfl (by kernel_rfl) (by kernel_rfl) (by kernel_rfl) (by kernel_rfl) (fun _ _ _ h => h) HF.out rfl ?_ rfl rfl ?_ ?_
      rotate_left
      · intro w' hF; clear hF; go_simp; try rfl
      rotate_left
      · simp only [Act.put]; exact rfl
      refine Calm.take (i := 1) (v := ?_) (a' := ?_) (l' := #[true, true, false, false, false, false, false, false, false, false, false, false, false, false]) (d := some 13) rfl (by kernel_rfl) (by kernel_rfl) (by kernel_rfl) (by kernel_rfl) (fun _ _ _ h => h) HF.out rfl ?_ rfl rfl ?_ ?_
      rotate_left
      · intro w' hF; clear hF; go_simp; try rfl
      rotate_left
      · simp only [Act.put]; exact rfl
      refine Calm.take (i := 2) (v := ?_) (a' := ?_) (l' := #[true, true, true, false, false, false, false, false, false, false, false, false, false, false]) (d := some 14) rfl (by kernel_rfl) (by kernel_rfl) (by kernel_rfl) (by kernel_rfl) (fun _ _ _ h => h) HF.out rfl ?_ rfl rfl ?_ ?_
      rotate_left
      · intro w' hF; clear hF; go_simp; try rfl
      rotate_left
      · simp only [Act.put]; exact rfl
      refine Calm.take (i := 3) (v := ?_) (a' := ?_) (l' := #[true, true, true, true, false, false, false, false, false, false, false, false, false, false]) (d := some 15) rfl (by kernel_rfl) (by kernel_rfl) (by kernel_rfl) (by kernel_rfl) (fun _ _ _ h => h) HF.out rfl ?_ rfl rfl ?_ ?_
      rotate_left
      · intro w' hF; clear hF; go_simp; try rfl
      rotate_left
      · simp only [Act.put]; exact rfl
      refine Calm.take (i := 4) (v := ?_) (a' := ?_) (l' := #[true, true, true, true, true, false, false, false, false, false, false, false, false, false]) (d := some 16) rfl (by kernel_rfl) (by kernel_rfl) (by kernel_rfl) (by kernel_rfl) (fun _ _ _ h => h) HF.out rfl ?_ rfl rfl ?_ ?_
      rotate_left
      · intro w' hF; clear hF; go_simp; try rfl
      rotate_left
      · simp only [Act.put]; exact rfl
      refine Calm.take (i := 5) (v := ?_) (a' := ?_) (l' := #[true, true, true, true, true, true, false, false, false, false, false, false, false, false]) (d := some 17) rfl (by kernel_rfl) (by kernel_rfl) (by kernel_rfl) (by kernel_rfl) (fun _ _ _ h => h) HF.out rfl ?_ rfl rfl ?_ ?_
      rotate_left
      · intro w' hF; clear hF; go_simp; try rfl
      rotate_left
      · simp only [Act.put]; exact rfl
      refine Calm.take (i := 6) (v := ?_) (a' := ?_) (l' := #[true, true, true, true, true, true, true, false, false, false, false, false, false, false]) (d := some 18) rfl (by kernel_rfl) (by kernel_rfl) (by kernel_rfl) (by kernel_rfl) (fun _ _ _ h => h) HF.out rfl ?_ rfl rfl ?_ ?_
      rotate_left
      · intro w' hF; clear hF; go_simp; try rfl
      rotate_left
      · simp only [Act.put]; exact rfl
      refine Calm.one (i := 7) (l' := #[true, true, true, true, true, true, true, true, false, false, false, false, false, false]) (by kernel_rfl) rfl rfl rfl fun K hK => ?_
      go_simp
      have al := below_alloc w1d (.cells #[.int .u32 (P : Int)] 32)
      have HF' := hide (HF.out.trans ((al).mono HF.out.size))
      have BXd := hide ((lit_own w1d 0 P _ rfl (Nat.zero_le _)).nums (by intro x hx; simp at hx; subst hx; exact HPL.out))
      have GEd := hide (HF.out.size)
      refine hK _ _ (fun _ => HF'.out) ?_
      clear hK K HF al
      have HF := hide HF'.out
      clear HF'
      generalize w1d.alloc (.cells #[.int .u32 (P : Int)] 32) = wzd at *
      generalize w1d.heap.size = gd at *
      refine Calm.one (i := 8) (l' := #[true, true, true, true, true, true, true, true, true, false, false, false, false, false]) (by kernel_rfl) rfl rfl rfl fun K hK => ?_
      go_simp
      refine (rdivmod_any _ _ (xs.drop m) [P] _ ((HD.out.below HB.out).below HF.out) BXd.out (by rw [List.length_drop]; omega) (by simp) (by simp [val]; exact HPP.out)).mono ?_
      rintro e y1 ⟨q, r, rfl, hq, _, hb⟩
      replace BXd := hide (BXd.out.below hb)
      have HF' := hide (HF.out.trans ((hb).mono HF.out.size))
      have TQ := hide (hq)
      refine hK _ _ (fun _ => HF'.out) ?_
      clear hK K HF hb hq
      have HF := hide HF'.out
      clear HF'
      refine Calm.take (i := 9) (v := ?_) (a' := ?_) (l' := #[true, true, true, true, true, true, true, true, true, true, false, false, false, false]) (d := some 11) rfl (by kernel_rfl) (by kernel_rfl) (by kernel_rfl) (by kernel_rfl) (fun _ _ _ h => h) HF.out rfl ?_ rfl rfl ?_ ?_
      rotate_left
      · intro w' hF; clear hF; go_simp; try rfl
      rotate_left
      · simp only [Act.put]; exact rfl
      refine Calm.take (i := 10) (v := ?_) (a' := ?_) (l' := #[true, true, true, true, true, true, true, true, true, true, true, false, false, false]) (d := some 21) rfl (by kernel_rfl) (by kernel_rfl) (by kernel_rfl) (by kernel_rfl) (fun _ _ _ h => h) HF.out rfl ?_ rfl rfl ?_ ?_
      rotate_left
      · intro w' hF; clear hF; go_simp; try rfl
      rotate_left
      · simp only [Act.put]; exact rfl
      refine Calm.take (i := 11) (v := ?_) (a' := ?_) (l' := #[true, true, true, true, true, true, true, true, true, true, true, true, false, false]) (d := some 22) rfl (by kernel_rfl) (by kernel_rfl) (by kernel_rfl) (by kernel_rfl) (fun _ _ _ h => h) HF.out rfl ?_ rfl rfl ?_ ?_
      rotate_left
      · intro w' hF; clear hF; go_simp; try rfl
      rotate_left
      · simp only [Act.put]; exact rfl
      refine Calm.take (i := 12) (v := ?_) (a' := ?_) (l' := #[true, true, true, true, true, true, true, true, true, true, true, true, true, false]) (d := some 5) rfl (by kernel_rfl) (by kernel_rfl) (by kernel_rfl) (by kernel_rfl) (fun _ _ _ h => h) HF.out rfl ?_ rfl rfl ?_ ?_
      rotate_left
      · intro w' hF; clear hF; go_simp; try rfl
      rotate_left
      · simp only [Act.put]; exact rfl
      refine Calm.take (i := 13) (v := ?_) (a' := ?_) (l' := #[true, true, true, true, true, true, true, true, true, true, true, true, true, true]) (d := some 6) rfl (by kernel_rfl) (by kernel_rfl) (by kernel_rfl) (by kernel_rfl) (fun _ _ _ h => h) HF.out rfl ?_ rfl rfl ?_ ?_
      rotate_left
      · intro w' hF; clear hF; go_simp; try rfl
      rotate_left
      · simp only [Act.put]; exact rfl
      refine Calm.done (by kernel_rfl) ?_
      simp only [List.setIfInBounds_toArray, List.set_cons_succ, List.set_cons_zero]
      go_wp2
      go_ret
      exact ⟨q, rfl, by have := TQ.out; rw [show val [P] = P from by simp [val], HDW.out] at this; exact this, HB.out.trans (HF.out.mono HB.out.size)⟩
end Go.Proofs.YtmibgcpafccliaaDoor

namespace Go.Proofs.YtmibgcpafccliaaDoor
open Go.RowKit

set_option maxRecDepth 100000 in
set_option maxHeartbeats 2000000 in
theorem rbit_neg (v : Value) (xs : List Nat) (k : Int) (w : World) (h : Nums w v xs) (hk : k < 0) :
    Calls Tryd.prog 14 #[v, .int .i64 k] w fun e w' => e = .returned (.bool false) ∧ w' = w := by
  obtain ⟨_, a1, c1, rfl, _, _, _⟩ := h
  have hk2 : ¬ 0 ≤ k := by omega
  go_enter Tryd.func14, Tryd.ntmps14
  go_wp2
  go_ret
  exact ⟨rfl, rfl⟩
set_option maxRecDepth 100000 in
set_option maxHeartbeats 2000000 in
theorem shl_neg (v : Value) (xs : List Nat) (n : Int) (w : World) (h : Nums w v xs) (hk : n < 0) :
    Calls Tryd.prog 9 #[v, .int .i64 n] w fun e w' => e = .returned (.tuple #[.slice none 0 0, .int .i64 2]) ∧ w' = w := by
  obtain ⟨_, a1, c1, rfl, _, _, _⟩ := h
  go_enter Tryd.func9, Tryd.ntmps9
  go_wp2
  go_ret2
  exact ⟨rfl, rfl⟩
set_option maxRecDepth 100000 in
set_option maxHeartbeats 2000000 in
theorem shl_big (v : Value) (xs : List Nat) (n : Nat) (w : World) (h : Nums w v xs) (hk : 65536 < n) :
    Calls Tryd.prog 9 #[v, .int .i64 n] w fun e w' => e = .returned (.tuple #[.slice none 0 0, .int .i64 3]) ∧ w' = w := by
  obtain ⟨_, a1, c1, rfl, _, _, _⟩ := h
  have h1 : ¬ (n : Int) < 0 := by omega
  have h2 : (65536 : Int) < (n : Int) := by omega
  go_enter Tryd.func9, Tryd.ntmps9
  go_wp2
  go_ret2
  exact ⟨rfl, rfl⟩
set_option maxRecDepth 100000 in
set_option maxHeartbeats 2000000 in
theorem shr_neg (v : Value) (xs : List Nat) (n : Int) (w : World) (h : Nums w v xs) (hk : n < 0) :
    Calls Tryd.prog 10 #[v, .int .i64 n] w fun e w' => e = .returned (.tuple #[.slice none 0 0, .int .i64 2]) ∧ w' = w := by
  obtain ⟨_, a1, c1, rfl, _, _, _⟩ := h
  go_enter Tryd.func10, Tryd.ntmps10
  go_wp2
  go_ret2
  exact ⟨rfl, rfl⟩

def BitsPair (xs : List Nat) (z : Int) : Prop := (∀ v w, Nums w v xs → Calls Tryd.prog 11 #[v] w fun e w' => e = .returned (.int .i64 z) ∧ Below w.heap.size w w') ∧
  (∀ v w, Nums w v xs → Calls Tryd.prog 12 #[v] w fun e w' => e = .returned (.int .i64 z) ∧ Below w.heap.size w w')
theorem bits_pair (xs : List Nat) (hlen : xs.length ≤ 1000000) : ∃ z : Int, BitsPair xs z := by
  by_cases hz : val xs = 0
  · refine ⟨0, fun v w h => (lbits_zero v xs w h hz).mono ?_, fun v w h => rbits_zero v xs w h hlen hz⟩
    rintro e w' ⟨rfl, rfl⟩
    exact ⟨rfl, Below.refl _ _⟩
  · obtain ⟨L, hL⟩ : ∃ L, IsLen (val xs) L := ⟨Nat.log2 (val xs) + 1, Nat.lt_log2_self, fun _ => ⟨Nat.succ_pos _, by simpa using Nat.log2_self_le hz⟩⟩
    have hp := Nat.pos_of_ne_zero hz
    refine ⟨(L : Nat), fun v w h => (lbitsX_any v xs w h hlen).mono ?_, fun v w h => (rbits_any v xs w h (by omega)).mono ?_⟩
    · rintro e w' ⟨M, rfl, hM, _, rfl⟩
      rw [hM.onlyL hL hp]
      exact ⟨rfl, Below.refl _ _⟩
    · rintro e w' ⟨M, rfl, hM, _, hb⟩
      rw [hM.onlyL hL hp]
      exact ⟨rfl, hb⟩
def TwosPair (xs : List Nat) (z : Int) : Prop := (∀ v w, Nums w v xs → TabW w → Calls Tryd.prog 15 #[v] w fun e w' => e = .returned (.int .i64 z) ∧ Below w.heap.size w w') ∧
  (∀ v w, Nums w v xs → Calls Tryd.prog 16 #[v] w fun e w' => e = .returned (.int .i64 z) ∧ Below w.heap.size w w')
theorem twos_pair (xs : List Nat) (hlen : xs.length ≤ 1000000) : ∃ z : Int, TwosPair xs z := by
  by_cases hz : val xs = 0
  · refine ⟨0, fun v w h _ => (twos_zero v xs w h hz).mono ?_, fun v w h => rtwos_zero v xs w h hlen hz⟩
    rintro e w' ⟨rfl, rfl⟩
    exact ⟨rfl, Below.refl _ _⟩
  · have hp := Nat.pos_of_ne_zero hz
    obtain ⟨K, hK⟩ := exists_twos (val xs) hp
    refine ⟨(K : Nat), fun v w h hT => (twos_any v xs w h hT hlen hz).mono ?_, fun v w h => rtwos_any v xs K w h hlen hp hK⟩
    rintro e w' ⟨M, rfl, hM, _, rfl⟩
    rw [hM.only hK]
    exact ⟨rfl, Below.refl _ _⟩
def BitPair (xs : List Nat) (n : Int) (b : Bool) : Prop := (∀ v w, Nums w v xs → Calls Tryd.prog 13 #[v, .int .i64 n] w fun e w' => e = .returned (.bool b) ∧ Below w.heap.size w w') ∧
  (∀ v w, Nums w v xs → Calls Tryd.prog 14 #[v, .int .i64 n] w fun e w' => e = .returned (.bool b) ∧ Below w.heap.size w w')
theorem bit_pair (xs : List Nat) (n : Int) (hn : n ≤ 9223372036854775807) : ∃ b : Bool, BitPair xs n b := by
  by_cases h0 : n < 0
  · refine ⟨false, fun v w h => (bit_neg v xs n w h h0).mono ?_, fun v w h => (rbit_neg v xs n w h h0).mono ?_⟩
    · rintro e w' ⟨rfl, rfl⟩; exact ⟨rfl, Below.refl _ _⟩
    · rintro e w' ⟨rfl, rfl⟩; exact ⟨rfl, Below.refl _ _⟩
  · obtain ⟨k, rfl⟩ : ∃ k : Nat, n = (k : Int) := ⟨n.toNat, by omega⟩
    refine ⟨bitB (val xs) k, fun v w h => (bit_any v xs k w h (by omega)).mono ?_, fun v w h => (rbit_any v xs k w h (by omega)).mono ?_⟩
    · rintro e w' ⟨rfl, rfl⟩; exact ⟨rfl, Below.refl _ _⟩
    · rintro e w' ⟨rfl, rfl⟩; exact ⟨rfl, Below.refl _ _⟩
end Go.Proofs.YtmibgcpafccliaaDoor

namespace Go.Proofs.YtmibgcpafccliaaDoor
open Go.RowKit

/-- how often 2 divides it, -1 of 0 -/
def ITw (z t : Int) : Prop := (z = 0 ∧ t = -1) ∨ (z ≠ 0 ∧ ∃ k : Nat, t = (k : Int) ∧ IsTwos z.natAbs k ∧ k ≤ 32000000)
theorem ITw.only {z s t : Int} (h : ITw z s) (h' : ITw z t) : s = t := by
  rcases h with ⟨h1, rfl⟩ | ⟨h1, k, rfl, h2, _⟩ <;> rcases h' with ⟨h3, rfl⟩ | ⟨h3, j, rfl, h4, _⟩
  · rfl
  · exact absurd h1 h3
  · exact absurd h3 h1
  · rw [h2.only h4]
theorem sgn_zero {z : Int} (h : z = 0) : sgnI z = 0 := by simp [sgnI, h]
theorem sgn_ne {z : Int} (h : z ≠ 0) : (sgnI z == 0) = false := by
  unfold sgnI
  by_cases h1 : z < 0
  · rw [if_pos h1]; rfl
  · rw [if_neg h1, if_neg h]; rfl
theorem sg_nil {b : Bool} {n : Nat} : sg b n = 0 ↔ n = 0 := by cases b <;> simp [sg]
theorem sg_times {b : Bool} {n m : Nat} : sg b (n * m) = sg b n * (m : Int) := by cases b <;> simp [sg, Int.neg_mul]

set_option maxRecDepth 100000 in
set_option maxHeartbeats 1000000 in
theorem itwos_any (v : Value) (z : Int) (w : World) (h : IntAt w v z) (hT : TabW w) (hlen : (lim z.natAbs).length ≤ 1000000) :
    Calls Tryd.prog 27 #[v] w fun e w' => ∃ t : Int, e = .returned (.int .i64 t) ∧ ITw z t ∧ Below w.heap.size w w' := by
  have HI := hide h
  have HT := hide hT
  clear hT
  obtain ⟨b, n, a, c, rfl, hn, rfl, h0⟩ := h
  rw [sg_abs] at hlen
  have P0 := hide (Box.new w (.bool b) (.slice a (lim n).length c))
  have HB := hide (below_alloc w (.cells #[.bool b, .slice a (lim n).length c] 44))
  have HN := hide (hn.below HB.out)
  clear hn h0
  have p0 := P0.out.cell0
  have p1 := P0.out.cell1
  go_enter Tryd.func27, Tryd.ntmps27
  go_wp2_with fail
  refine (isign_any _ (sg b n) _ (HI.out.below HB.out)).mono ?_
  rintro e w1 ⟨rfl, hb⟩
  clear p0 p1
  replace P0 := hide (P0.out.step hb)
  replace HN := hide (HN.out.below hb)
  replace HB := hide (HB.out.trans (hb.mono HB.out.size))
  clear hb
  by_cases hz : sg b n = 0
  · rw [sgn_zero hz]
    have HZ := hide hz
    clear hz
    go_wp2
    go_ret
    exact ⟨-1, rfl, .inl ⟨HZ.out, rfl⟩, HB.out⟩
  · have hs := sgn_ne hz
    have HZ := hide hz
    clear hz
    have p1 := P0.out.cell1
    go_wp2_with fail
    refine (twos_any _ (lim n) _ HN.out (HT.out.below HB.out) hlen (by rw [val_lim]; exact fun e => HZ.out (sg_nil.2 e))).mono ?_
    rintro e w2 ⟨k, rfl, hk, hkb, rfl⟩
    rw [val_lim] at hk
    have HK := hide (And.intro hk hkb)
    clear hk hkb p1
    go_wp2
    go_ret
    exact ⟨k, rfl, .inr ⟨HZ.out, k, rfl, by rw [sg_abs]; exact HK.out.1, HK.out.2⟩, HB.out⟩

set_option maxRecDepth 100000 in
set_option maxHeartbeats 1000000 in
theorem ishl_gen (b : Bool) (n m : Nat) (a : Option Addr) (c : Nat) (N er : Int) (w : World) (hn : Nums w (.slice a (lim n).length c) (lim n))
    (hS : ∀ W, Nums W (.slice a (lim n).length c) (lim n) → Calls Tryd.prog 9 #[.slice a (lim n).length c, .int .i64 N] W fun e w' => ∃ v', e = .returned (.tuple #[v', .int .i64 er]) ∧ Nums w' v' (lim m) ∧ Below W.heap.size W w') :
    Calls Tryd.prog 31 #[.agg #[.bool b, .slice a (lim n).length c], .int .i64 N] w fun e w' => ∃ v', e = .returned (.tuple #[v', .int .i64 er]) ∧ IntAt w' v' (sg b m) ∧ Below w.heap.size w w' := by
  have HN := hide hn
  have HS := hide hS
  have HE := hide (boxes2 w (.bool b) (.slice a (lim n).length c) (.bool false) (.slice none 0 0))
  clear hn hS
  go_enter Tryd.func31, Tryd.ntmps31
  go_wp2_with fail
  refine (HS.out _ (HN.out.below HE.out.2.2)).mono ?_
  rintro e w1 ⟨v1, rfl, hN1, hb⟩
  have N1 := hide hN1
  have P0 := hide (HE.out.1.step hb)
  have P1 := hide (HE.out.2.1.step hb)
  have HB := hide (HE.out.2.2.trans (hb.mono HE.out.2.2.size))
  clear hb hN1 HE
  have p0 := P0.out.cell0
  go_wp2_with fail
  refine (made_any b m _ _ N1.out).mono ?_
  rintro e w2 ⟨v2, rfl, hI, hb⟩
  obtain ⟨b', n', a', c', rfl, hn', he, h0⟩ := hI
  clear p0
  replace P0 := hide (P0.out.step hb)
  replace P1 := hide (P1.out.step hb)
  replace HB := hide (HB.out.trans (hb.mono HB.out.size))
  have IhO := hide (show IntAt w2 (.agg #[.bool b', .slice a' (lim n').length c']) (sg b m) from ⟨b', n', a', c', rfl, hn', he, h0⟩)
  clear hb hn' he h0
  have hc0 := P1.out.cell0
  have hc1 := P1.out.cell1
  have hf0 := P1.out.free 0
  have hf1 := P1.out.free 1
  go_wp2
  refine ret_one rfl (w.heap.size + 1) _ _ rfl (P1.out.put _ _) rfl ?_
  exact ⟨_, rfl, IhO.out.keep (P1.out.keeps (by simp) (by simp) _ _), below_put HB.out (Nat.le_succ _) _ _⟩
set_option maxRecDepth 100000 in
set_option maxHeartbeats 1000000 in
theorem ishr_gen (b : Bool) (n m : Nat) (a : Option Addr) (c : Nat) (N er : Int) (w : World) (hi : IntAt w (.agg #[.bool b, .slice a (lim n).length c]) (sg b n)) (hn : Nums w (.slice a (lim n).length c) (lim n)) (hT : TabW w) (hlen : (lim n).length ≤ 1000000)
    (hK : n ≠ 0 → ∃ K : Nat, IsTwos n K ∧ N ≤ K)
    (hS : ∀ W, Nums W (.slice a (lim n).length c) (lim n) → Calls Tryd.prog 10 #[.slice a (lim n).length c, .int .i64 N] W fun e w' => ∃ v', e = .returned (.tuple #[v', .int .i64 er]) ∧ Nums w' v' (lim m) ∧ Below W.heap.size W w') :
    Calls Tryd.prog 32 #[.agg #[.bool b, .slice a (lim n).length c], .int .i64 N] w fun e w' => ∃ v', e = .returned (.tuple #[v', .int .i64 er]) ∧ IntAt w' v' (sg b m) ∧ Below w.heap.size w w' := by
  have HN := hide hn
  have HT := hide hT
  have HI := hide hi
  have HS := hide hS
  have HK := hide hK
  have HE := hide (boxes2 w (.bool b) (.slice a (lim n).length c) (.bool false) (.slice none 0 0))
  clear hn hS hT hi hK
  go_enter Tryd.func32, Tryd.ntmps32
  go_wp2_with fail
  refine (isign_any _ (sg b n) _ (HI.out.below HE.out.2.2)).mono ?_
  rintro e w0 ⟨rfl, hb⟩
  have P0 := hide (HE.out.1.step hb)
  have P1 := hide (HE.out.2.1.step hb)
  have HB := hide (HE.out.2.2.trans (hb.mono HE.out.2.2.size))
  clear hb HE
  by_cases hz : sg b n = 0
  · rw [sgn_zero hz]
    clear hz
    have p1 := P0.out.cell1
    go_wp2_with fail
    refine (HS.out _ (HN.out.below HB.out)).mono ?_
    rintro e w1 ⟨v1, rfl, hN1, hb⟩
    have N1 := hide hN1
    clear p1
    replace P0 := hide (P0.out.step hb)
    replace P1 := hide (P1.out.step hb)
    replace HB := hide (HB.out.trans (hb.mono HB.out.size))
    clear hb hN1
    have p0 := P0.out.cell0
    go_wp2_with fail
    refine (made_any b m _ _ N1.out).mono ?_
    rintro e w2 ⟨v2, rfl, hI, hb⟩
    obtain ⟨b', n', a', c', rfl, hn', he, h0⟩ := hI
    clear p0
    replace P0 := hide (P0.out.step hb)
    replace P1 := hide (P1.out.step hb)
    replace HB := hide (HB.out.trans (hb.mono HB.out.size))
    have IhO := hide (show IntAt w2 (.agg #[.bool b', .slice a' (lim n').length c']) (sg b m) from ⟨b', n', a', c', rfl, hn', he, h0⟩)
    clear hb hn' he h0
    have hc0 := P1.out.cell0
    have hc1 := P1.out.cell1
    have hf0 := P1.out.free 0
    have hf1 := P1.out.free 1
    go_wp2
    refine ret_one rfl (w.heap.size + 1) _ _ rfl (P1.out.put _ _) rfl ?_
    exact ⟨_, rfl, IhO.out.keep (P1.out.keeps (by simp) (by simp) _ _), below_put HB.out (Nat.le_succ _) _ _⟩
  · have hs := sgn_ne hz
    have HZ := hide hz
    clear hz
    generalize hsg : sgnI (sg b n) = sgz at *
    clear hsg
    have hs2 : (sgz != 0) = true := by rw [bne, hs]; rfl
    have hs3 : ¬ sgz = 0 := by simpa using hs
    have p0 := P0.out.cell0
    have p1 := P0.out.cell1
    go_wp2_with fail
    refine (itwos_any _ (sg b n) _ (HI.out.below HB.out) (HT.out.below HB.out) (by rw [sg_abs]; exact hlen)).mono ?_
    rintro e w00 ⟨t, rfl, ht, hb⟩
    replace P0 := hide (P0.out.step hb)
    replace P1 := hide (P1.out.step hb)
    replace HB := hide (HB.out.trans (hb.mono HB.out.size))
    clear hb p0 p1
    have hle : ¬ t < N := by
      rcases ht with ⟨h1, _⟩ | ⟨_, k, rfl, h2, _⟩
      · exact absurd h1 HZ.out
      · obtain ⟨K, h3, h4⟩ := HK.out (fun e => HZ.out (sg_nil.2 e))
        rw [sg_abs] at h2
        rw [h2.only h3]; omega
    clear ht
    have p1 := P0.out.cell1
    go_wp2_with fail
    refine (HS.out _ (HN.out.below HB.out)).mono ?_
    rintro e w1 ⟨v1, rfl, hN1, hb⟩
    have N1 := hide hN1
    clear p1
    replace P0 := hide (P0.out.step hb)
    replace P1 := hide (P1.out.step hb)
    replace HB := hide (HB.out.trans (hb.mono HB.out.size))
    clear hb hN1
    have p0 := P0.out.cell0
    go_wp2_with fail
    refine (made_any b m _ _ N1.out).mono ?_
    rintro e w2 ⟨v2, rfl, hI, hb⟩
    obtain ⟨b', n', a', c', rfl, hn', he, h0⟩ := hI
    clear p0
    replace P0 := hide (P0.out.step hb)
    replace P1 := hide (P1.out.step hb)
    replace HB := hide (HB.out.trans (hb.mono HB.out.size))
    have IhO := hide (show IntAt w2 (.agg #[.bool b', .slice a' (lim n').length c']) (sg b m) from ⟨b', n', a', c', rfl, hn', he, h0⟩)
    clear hb hn' he h0
    have hc0 := P1.out.cell0
    have hc1 := P1.out.cell1
    have hf0 := P1.out.free 0
    have hf1 := P1.out.free 1
    go_wp2
    refine ret_one rfl (w.heap.size + 1) _ _ rfl (P1.out.put _ _) rfl ?_
    exact ⟨_, rfl, IhO.out.keep (P1.out.keeps (by simp) (by simp) _ _), below_put HB.out (Nat.le_succ _) _ _⟩
set_option maxRecDepth 100000 in
set_option maxHeartbeats 1000000 in
theorem ishr_not (v : Value) (z : Int) (N K : Nat) (w : World) (hi : IntAt w v z) (hT : TabW w) (hlen : (lim z.natAbs).length ≤ 1000000) (hz : z ≠ 0) (hK : IsTwos z.natAbs K) (hKN : K < N) :
    Calls Tryd.prog 32 #[v, .int .i64 N] w fun e w' => ∃ v', e = .returned (.tuple #[v', .int .i64 20]) ∧ IntAt w' v' 0 ∧ Below w.heap.size w w' := by
  have HT := hide hT
  have HI := hide hi
  have HK := hide hK
  obtain ⟨b, n, a, c, rfl, hn, rfl, h0⟩ := hi
  have HE := hide (boxes2 w (.bool b) (.slice a (lim n).length c) (.bool false) (.slice none 0 0))
  have hs := sgn_ne hz
  have HZ := hide hz
  clear hn hT hK h0 hz
  go_enter Tryd.func32, Tryd.ntmps32
  go_wp2_with fail
  refine (isign_any _ (sg b n) _ (HI.out.below HE.out.2.2)).mono ?_
  rintro e w0 ⟨rfl, hb⟩
  have P0 := hide (HE.out.1.step hb)
  have P1 := hide (HE.out.2.1.step hb)
  have HB := hide (HE.out.2.2.trans (hb.mono HE.out.2.2.size))
  clear hb HE
  generalize hsg : sgnI (sg b n) = sgz at *
  clear hsg
  have hs2 : (sgz != 0) = true := by rw [bne, hs]; rfl
  have hs3 : ¬ sgz = 0 := by simpa using hs
  have p0 := P0.out.cell0
  have p1 := P0.out.cell1
  go_wp2_with fail
  refine (itwos_any _ (sg b n) _ (HI.out.below HB.out) (HT.out.below HB.out) hlen).mono ?_
  rintro e w00 ⟨t, rfl, ht, hb⟩
  replace P0 := hide (P0.out.step hb)
  replace P1 := hide (P1.out.step hb)
  replace HB := hide (HB.out.trans (hb.mono HB.out.size))
  clear hb p0 p1
  have hle : t < (N : Int) := by
    rcases ht with ⟨h1, _⟩ | ⟨_, k, rfl, h2, _⟩
    · exact absurd h1 HZ.out
    · rw [h2.only HK.out]; omega
  clear ht
  have hc0 := P1.out.cell0
  have hc1 := P1.out.cell1
  have hf0 := P1.out.free 0
  have hf1 := P1.out.free 1
  go_wp2
  refine ret_one rfl (w.heap.size + 1) _ _ rfl (P1.out.put _ _) rfl ?_
  exact ⟨_, rfl, by rw [← sg_zero false]; exact IntAt.mk (by rw [lim_zero]; exact Nums.nil_mk _ _ _ (Nat.zero_le _)) fun _ => rfl, below_put HB.out (Nat.le_succ _) _ _⟩
end Go.Proofs.YtmibgcpafccliaaDoor
