/- limb.Shl, Bit, Twos, Bits. -/
import Derived.Test.YtdhbjgedaclgcaaDoorDivLong
import Derived.Test.YtdhbjgedaclgcaaDoorShr
import Derived.Test.YtdhbjgedaclgcaaDoorBitV
import Derived.Shelf.Spec.TrailingZeros
namespace Go.Proofs.YtdhbjgedaclgcaaDoor
open Go.RowKit

theorem shl_parts (L P : List Nat) (n : Nat) (h : val P = val L * 2 ^ (n % 32)) : val (List.replicate (n / 32) 0 ++ P) = val L * 2 ^ n := by
  rw [val_append, val_replicate, Nat.zero_add, List.length_replicate, h]
  have e : BB ^ (n / 32) = 2 ^ (32 * (n / 32)) := by rw [Nat.pow_mul]; rfl
  rw [e, Nat.mul_left_comm, ← Nat.pow_add]
  congr 2
  omega

theorem apart_nil {a : Option Addr} {n c g : Nat} {xs : List Nat} (h : xs = []) : Apart (.slice a n c) xs g := fun hne => absurd h hne
set_option maxRecDepth 100000 in
set_option maxHeartbeats 2000000 in
theorem shl_any (v : Value) (xs : List Nat) (n : Nat) (w : World) (h : Nums w v xs) (hn : n ≤ 65536) (hlen : xs.length ≤ 1000000) :
    Calls Tryd.prog 12 #[v, .int .i64 n] w fun e w' => ∃ v', e = .returned (.tuple #[v', .int .i64 0]) ∧ Nums w' v' (lim (val xs * 2 ^ n)) ∧ Below w.heap.size w w' := by
  have le1 := lim_val_length h.ok
  have HV := hide (val_lim (val xs))
  have HOKL := hide (ok_lim (val xs))
  go_enter Tryd.func12, Tryd.ntmps12
  go_wp2_with fail
  refine (trim_any v xs _ h).mono ?_
  rintro e w1 ⟨v1, rfl, rfl, hN1, _⟩
  clear h
  have HN := hide hN1
  obtain ⟨ho1, a1, c1, rfl, hl1, hm1, hc1⟩ := hN1
  unfold maxLen at hm1
  clear hc1 ho1
  generalize lim (val xs) = L at *
  have hmk := fun w => run_make32 (n / 32 + L.length + 1) (by omega) ((n : Int) / 32 + (L.length : Int) + 1) (by omega) w
  go_wp2_with fail
  rw [show n / 32 + L.length + 1 - n / 32 = L.length + 1 from by omega, show ((n : Int) % 32) = ((n % 32 : Nat) : Int) from by omega]
  have SG := seg_new w (n / 32 + L.length + 1) (by omega)
  have HB := hide (below_alloc w (.cells (ints (fil [] (n / 32 + L.length + 1))).toArray 25))
  have hap : Apart (.slice a1 L.length c1) L w.heap.size := by
    rcases HN.out.cases with ⟨e, _⟩ | ⟨_, b, off, c, e, _, _, hb, _⟩
    · exact apart_nil e
    · cases e; exact apart_old (w := w) hb (Nat.le_refl _)
  have HP := hide (shl_parts L)
  generalize hW : w.alloc (.cells (ints (fil [] (n / 32 + L.length + 1))).toArray 25) = W0 at *
  obtain ⟨R1, hR1, hRl⟩ : ∃ R1 : List Nat, R1 = List.replicate (n / 32) 0 ∧ R1.length = n / 32 := ⟨_, rfl, by simp⟩
  have hfil : fil [] (n / 32 + L.length + 1) = R1 ++ (fil [] (L.length + 1) ++ []) := by rw [hR1]; simp [fil, Nat.add_assoc, ← List.replicate_append_replicate]
  rw [hfil] at SG
  have HS := hide SG
  have HR1 := hide hR1
  have hs32 : n % 32 < 32 := by omega
  clear SG hfil hW hR1
  generalize hlow : n / 32 = low at *
  have HLOW := hide hlow
  clear hlow
  subst hRl
  refine (shiftInto_any _ L 0 w.heap.size (R1.length + L.length + 1) (R1.length + L.length + 1) _ (n % 32) R1 (fil [] (L.length + 1)) [] _ (HN.out.below HB.out) hap hs32 HS.out (by simp [fil]) (by have := HLOW.out; omega)).mono ?_
  rintro e W1 ⟨rfl, P, hPl, oP, hPv, hsg, hg1⟩
  rw [List.append_nil] at hsg
  have HB1 := hide (below_gb HB.out hg1 (Nat.le_refl _))
  have oR : Ok (R1 ++ P) := (by rw [HR1.out]; exact fun x hx => by rw [List.eq_of_mem_replicate hx]; exact BB_pos : Ok R1).append oP
  have HNN := hide (seg_nums hsg oR)
  have HVV : Hid (val (R1 ++ P) = val xs * 2 ^ n) := hide (by have := HP.out P n hPv; rw [HLOW.out] at this; rw [HR1.out] at this ⊢; rw [← HV.out]; simpa using this)
  clear hsg hg1 oR oP hPv hPl
  go_wp2_with fail
  refine (trim_any _ (R1 ++ P) _ HNN.out).mono ?_
  rintro e W2 ⟨v2, rfl, rfl, hN2, _⟩
  rw [HVV.out] at hN2
  have HN2 := hide hN2
  clear hN2
  go_wp2
  go_ret2
  exact ⟨v2, rfl, HN2.out, HB1.out⟩

set_option maxRecDepth 100000 in
set_option maxHeartbeats 2000000 in
theorem bit_neg (v : Value) (xs : List Nat) (k : Int) (w : World) (h : Nums w v xs) (hk : k < 0) :
    Calls Tryd.prog 17 #[v, .int .i64 k] w fun e w' => e = .returned (.bool false) ∧ w' = w := by
  obtain ⟨_, a1, c1, rfl, _, _, _⟩ := h
  go_enter Tryd.func17, Tryd.ntmps17
  go_wp2
  go_ret
  exact ⟨rfl, rfl⟩
set_option maxRecDepth 100000 in
set_option maxHeartbeats 2000000 in
theorem bit_any (v : Value) (xs : List Nat) (k : Nat) (w : World) (h : Nums w v xs) (hk : k ≤ 9223372036854775807) :
    Calls Tryd.prog 17 #[v, .int .i64 k] w fun e w' => e = .returned (.bool (bitB (val xs) k)) ∧ w' = w := by
  have HV := hide (bit_val xs k h.ok)
  have HOK := hide h.ok
  obtain ⟨_, a1, c1, rfl, hl, hm, hc⟩ := h
  unfold maxLen at hm
  by_cases hs : xs.length ≤ k / 32
  · have hsI : (xs.length : Int) ≤ (k : Int) / 32 := by omega
    clear hc
    go_enter Tryd.func17, Tryd.ntmps17
    go_wp2
    go_ret
    exact ⟨by unfold bitB; rw [HV.out, lm_over _ _ hs]; simp, rfl⟩
  · have hsI : ¬ (xs.length : Int) ≤ (k : Int) / 32 := by omega
    obtain ⟨b, off, rfl, hx⟩ := hc (ne_nil (k := k / 32) (by omega))
    have hxk := hx (k / 32) (by omega)
    have hxb := HOK.out.at (k / 32)
    unfold BB at hxb
    have hm32 : lm xs (k / 32) / 2 ^ (k % 32) < 4294967296 := Nat.lt_of_le_of_lt (Nat.div_le_self _ _) hxb
    have HAND := hide (and_one32 _ hm32)
    clear hx hc
    go_enter Tryd.func17, Tryd.ntmps17
    go_wp2
    go_ret
    refine ⟨congrArg Ending.returned (congrArg Value.bool ?_), rfl⟩
    have e : ((lm xs (k / 32) : Int) / 2 ^ (k % 32)) = ((lm xs (k / 32) / 2 ^ (k % 32) : Nat) : Int) := by rw [Int.natCast_ediv, Int.natCast_pow]; rfl
    rw [e, HAND.out]
    unfold bitB
    rw [HV.out, Bool.eq_iff_iff]
    simp only [beq_iff_eq, decide_eq_true_eq]
    omega

/-- 2^k divides it, and 2^(k+1) does not -/
def IsTwos (N k : Nat) : Prop := ∃ m, N = 2 ^ k * (2 * m + 1)
theorem IsTwos.only {N j k : Nat} (h : IsTwos N j) (h' : IsTwos N k) : j = k := by
  obtain ⟨m, rfl⟩ := h
  obtain ⟨m', e⟩ := h'
  rcases Nat.lt_trichotomy j k with l | l | l
  · obtain ⟨d, rfl⟩ : ∃ d, k = j + 1 + d := ⟨k - (j + 1), by omega⟩
    rw [Nat.pow_add, Nat.pow_succ, Nat.mul_assoc, Nat.mul_assoc] at e
    have := Nat.eq_of_mul_eq_mul_left (Nat.two_pow_pos j) e
    omega
  · exact l
  · obtain ⟨d, rfl⟩ : ∃ d, j = k + 1 + d := ⟨j - (k + 1), by omega⟩
    rw [Nat.pow_add, Nat.pow_succ, Nat.mul_assoc, Nat.mul_assoc] at e
    have := Nat.eq_of_mul_eq_mul_left (Nat.two_pow_pos k) e
    omega
theorem IsTwos.times {N k : Nat} (h : IsTwos N k) (n : Nat) : IsTwos (N * 2 ^ n) (k + n) := by
  obtain ⟨m, rfl⟩ := h
  exact ⟨m, by rw [Nat.pow_add, Nat.mul_assoc, Nat.mul_assoc]; congr 1; rw [Nat.mul_comm]⟩
/-- the table of math/bits -/
def TabW (w : World) : Prop := Go.Proofs.TabAt 0 Lib.deBruijn32tab w
theorem TabW.below {w w' : World} (h : TabW w) (hb : Below w.heap.size w w') : TabW w' := fun j hj => (hb.cell (World.block_lt_of_cell? w _ (h j hj))).trans (h j hj)

set_option maxRecDepth 100000 in
set_option maxHeartbeats 2000000 in
theorem tz32_core (x k idx : Nat) (w : World) (hx0 : ((x : Int) == 0) = false) (key : bits BinOp.and IntKind.u32 (x : Int) (-(x : Int) % 4294967296) * 125613361 % 4294967296 / 134217728 = (idx : Int)) (hi : idx < 32) (hk : k < 32)
    (hcell : w.cell? ⟨0, idx, none⟩ = some (.int .u8 k)) :
    Calls Tryd.prog 28 #[.int .u32 x] w fun e w' => e = .returned (.int .i64 (k : Nat)) ∧ w' = w := by
  go_enter Tryd.func28, Tryd.ntmps28
  go_wp2_with (simp only [key])
  go_ret
  exact ⟨rfl, rfl⟩
theorem tz32_any (x : Nat) (w : World) (hx : x < 4294967296) (hx0 : x ≠ 0) (hT : TabW w) :
    Calls Tryd.prog 28 #[.int .u32 x] w fun e w' => ∃ k : Nat, e = .returned (.int .i64 (k : Nat)) ∧ IsTwos x k ∧ k < 32 ∧ w' = w := by
  obtain ⟨hlow, hk⟩ := Lib.lowest_bit 32 x hx0 hx
  obtain ⟨hi, htab⟩ := Lib.deBruijn32_at _ hk
  have hcell := hT _ hi
  rw [htab] at hcell
  obtain ⟨m, hm, _⟩ := Lib.ctzFrom_spec 32 x (Nat.pos_of_ne_zero hx0) hx
  have ec : Lib.ctz 32 x = Lib.ctzFrom 32 x := by simp [Lib.ctz, hx0]
  rw [← ec] at hm
  refine (tz32_core x _ _ w (by simp; exact hx0) (Go.Proofs.tz32_key x _ hx hx0 hlow) hi hk hcell).mono ?_
  rintro e w' ⟨rfl, rfl⟩
  exact ⟨_, rfl, ⟨m, hm⟩, hk, rfl⟩
theorem twos_step {xs : List Nat} {k : Nat} (h : ∀ i, i < k → lm xs i = 0) : val xs = BB ^ k * val (xs.drop k) := by
  induction k with
  | zero => simp
  | succ k ih =>
    rw [ih (fun i hi => h i (by omega)), drop_val_any xs k, h k (by omega), Nat.zero_add, Nat.pow_succ, Nat.mul_assoc]
theorem twos_at {xs : List Nat} {k j : Nat} (h : ∀ i, i < k → lm xs i = 0) (hj : IsTwos (lm xs k) j) (hj32 : j < 32) : IsTwos (val xs) (32 * k + j) := by
  obtain ⟨m, hm⟩ := hj
  have hb : BB = 2 ^ j * 2 ^ (31 - j) * 2 := by
    have : 2 ^ j * 2 ^ (31 - j) * 2 = 2 ^ 32 := by rw [← Nat.pow_add, ← Nat.pow_succ]; congr 1; omega
    rw [this]; rfl
  refine ⟨m + 2 ^ (31 - j) * val (xs.drop (k + 1)), ?_⟩
  rw [twos_step h, drop_val_any xs k, hm, Nat.pow_add, show BB ^ k = 2 ^ (32 * k) from by rw [Nat.pow_mul]; rfl, Nat.mul_assoc]
  congr 1
  rw [hb]
  grind

set_option maxRecDepth 100000 in
set_option maxHeartbeats 2000000 in
theorem twos_any (v : Value) (xs : List Nat) (w : World) (h : Nums w v xs) (hT : TabW w) (hlen : xs.length ≤ 1000000) (hne : val xs ≠ 0) :
    Calls Tryd.prog 18 #[v] w fun e w' => ∃ k : Nat, e = .returned (.int .i64 (k : Nat)) ∧ IsTwos (val xs) k ∧ k ≤ 32000000 ∧ w' = w := by
  have HOK := hide h.ok
  have HN := hide hne
  have HT := hide hT
  obtain ⟨_, a1, c1, rfl, hl, hm, hc⟩ := h
  unfold maxLen at hm
  have HC := hide hc
  clear hne hT hc
  go_enter Tryd.func18, Tryd.ntmps18
  go_wp2
  go_loopw [2, 3, 4, 7] (fun _ _ _ iv wr => ∃ k : Nat, k ≤ xs.length ∧ iv = .int .i64 k ∧ wr = w ∧ ∀ i, i < k → lm xs i = 0) (fun _ _ _ iv _ => xs.length - (intOf iv).toNat)
  case atStart => exact ⟨0, Nat.zero_le _, rfl, rfl, fun _ h => absurd h (Nat.not_lt_zero _)⟩
  case round =>
    obtain ⟨k, hk, rfl, rfl, hz⟩ := hrel
    have HZ := hide hz
    clear hz
    by_cases hlt : k < xs.length
    · obtain ⟨b, off, rfl, hx⟩ := HC.out (ne_nil hlt)
      have hxk := hx k hlt
      have hxb := HOK.out.at k
      unfold BB at hxb
      clear hx
      by_cases h0 : lm xs k = 0
      · have hne : (((lm xs k : Nat) : Int) != 0) = false := by simp; omega
        have H0 := hide h0
        clear h0
        go_wp2
        go_roundw
        case rel => exact ⟨k + 1, by omega, by go_num, by first | rfl | trivial, fun i hi => by rcases Nat.lt_succ_iff_lt_or_eq.1 hi with h | rfl; exact HZ.out i h; exact H0.out⟩
        case measure => simp [intOf]; omega
      · have hne : (((lm xs k : Nat) : Int) != 0) = true := by simp; omega
        go_wp2_with fail
        refine (tz32_any (lm xs k) _ hxb h0 HT.out).mono ?_
        rintro e w1 ⟨j, rfl, hj, hj32, rfl⟩
        have HJ := hide hj
        clear hj
        go_wp2
        go_ret
        exact ⟨32 * k + j, congrArg Ending.returned (congrArg (Value.int .i64) (by omega)), twos_at HZ.out HJ.out hj32, by omega, rfl⟩
    · have e : k = xs.length := by omega
      subst e
      exact absurd (by rw [twos_step HZ.out, List.drop_length]; simp [val]) HN.out
theorem lim_lastL {n : Nat} (h : 0 < n) : lm (lim n) ((lim n).length - 1) ≠ 0 := by
  revert h
  refine lim_ind (p := fun n => 0 < n → lm (lim n) ((lim n).length - 1) ≠ 0) (fun h => absurd h (by decide)) (fun n hn ih _ => ?_) n
  rw [lim_pos hn]
  by_cases h0 : n / BB = 0
  · rw [h0, lim_zero]
    have : n % BB = n := Nat.mod_eq_of_lt ((Nat.div_eq_zero_iff_lt BB_pos).1 h0)
    simp [lm, this]; omega
  · have := ih (Nat.pos_of_ne_zero h0)
    obtain ⟨m, hm⟩ : ∃ m, (lim (n / BB)).length = m + 1 := ⟨(lim (n / BB)).length - 1, by rw [lim_pos (Nat.pos_of_ne_zero h0)]; simp⟩
    rw [List.length_cons, hm]
    rw [hm] at this
    simpa [lm] using this
theorem IsLen.onlyL {x L M : Nat} (h : IsLen x L) (k : IsLen x M) (hx : 0 < x) : L = M := by
  obtain ⟨h1, h2⟩ := h
  obtain ⟨k1, k2⟩ := k
  have h3 := (h2 hx)
  have k3 := (k2 hx)
  have a := (Nat.pow_lt_pow_iff_right (a := 2) (by decide)).1 (Nat.lt_of_le_of_lt h3.2 k1)
  have b := (Nat.pow_lt_pow_iff_right (a := 2) (by decide)).1 (Nat.lt_of_le_of_lt k3.2 h1)
  omega

set_option maxRecDepth 100000 in
set_option maxHeartbeats 1000000 in
theorem lbitsX_any (v : Value) (xs : List Nat) (w : World) (h : Nums w v xs) (hlen : xs.length ≤ 1000000) :
    Calls Tryd.prog 16 #[v] w fun e w' => ∃ L : Nat, e = .returned (.int .i64 (L : Nat)) ∧ IsLen (val xs) L ∧ L ≤ 32000000 ∧ w' = w := by
  have HN := hide h
  have hle := lim_val_length h.ok
  clear h
  obtain ⟨m, hm⟩ : ∃ m, val xs = m := ⟨_, rfl⟩
  rw [hm] at hle ⊢
  have HM := hide hm
  clear hm
  go_enter Tryd.func16, Tryd.ntmps16
  go_wp2_with fail
  refine (trim_any _ _ _ HN.out).mono ?_
  rintro e w2 ⟨v3, rfl, rfl, hN3, hcut⟩
  rw [HM.out] at hN3
  clear HN HM
  obtain ⟨_, a, cap, rfl, hl1, hm1, hc1⟩ := hN3
  unfold maxLen at hm1
  have HC := hide hc1
  clear hc1 hcut
  by_cases hz : m = 0
  · subst hz
    rw [lim_zero]
    go_wp2
    go_ret
    exact ⟨0, rfl, ⟨by decide, fun h => absurd h (by decide)⟩, Nat.zero_le _, rfl⟩
  · have hp : 0 < (lim m).length := by rw [lim_pos (Nat.pos_of_ne_zero hz)]; simp
    have hlz : ((((lim m).length : Nat) : Int) == 0) = false := by rw [beq_eq_false_iff_ne]; omega
    have HT := hide (val_top_div (L := lim m) (n := (lim m).length - 1) (ok_lim m) (by omega))
    rw [val_lim] at HT
    have HTOP := hide (lim_lastL (Nat.pos_of_ne_zero hz))
    have HOK := hide (ok_lim m)
    clear hz
    generalize lim m = L at *
    obtain ⟨b, off, rfl, hx⟩ := HC.out (ne_nil (k := L.length - 1) (by omega))
    have hxt := hx (L.length - 1) (by omega)
    have htb := HOK.out.at (L.length - 1)
    unfold BB at htb
    clear hx HC
    go_wp2_with fail
    refine (len32_any _ _ (by omega) (by omega)).mono ?_
    rintro e w3 ⟨N, rfl, hN, hNb, rfl⟩
    have HNN := hide hN
    clear hN
    go_wp2
    go_ret
    refine ⟨32 * (L.length - 1) + N, congrArg Ending.returned (congrArg (Value.int .i64) (by omega)), ?_, by omega, rfl⟩
    have hL := HNN.out
    rw [show ((lm L (L.length - 1) : Nat) : Int).toNat = lm L (L.length - 1) from Int.toNat_natCast _, ← HT.out] at hL
    exact hL.shift (by rw [HT.out]; exact Nat.pos_of_ne_zero HTOP.out)
theorem bit_top {N L : Nat} (h : IsLen N L) (hN : 0 < N) : 1 ≤ L ∧ bitB N (L - 1) = true := by
  obtain ⟨h1, h2⟩ := h
  obtain ⟨h3, h4⟩ := h2 hN
  refine ⟨h3, ?_⟩
  have e : N / 2 ^ (L - 1) = 1 := by
    refine Nat.div_eq_of_lt_le (by omega) ?_
    have : 2 ^ L = (1 + 1) * 2 ^ (L - 1) := by rw [← Nat.pow_succ']; congr 1; omega
    omega
  unfold bitB; rw [e]; rfl
theorem bit_low (N n : Nat) (hn : 0 < n) : bitB (N * 2 ^ n) (n - 1) = false := by
  have e : N * 2 ^ n / 2 ^ (n - 1) = N * 2 := by
    rw [show 2 ^ n = 2 * 2 ^ (n - 1) from by rw [← Nat.pow_succ']; congr 1; omega, ← Nat.mul_assoc]
    exact Nat.mul_div_cancel _ (Nat.two_pow_pos _)
  unfold bitB; rw [e, Nat.mul_mod_left]; rfl
theorem len_times {N L n : Nat} (h : IsLen N L) (hN : 0 < N) : IsLen (N * 2 ^ n) (L + n) := by
  have e : N * 2 ^ n / 2 ^ n = N := Nat.mul_div_cancel _ (Nat.two_pow_pos _)
  have := IsLen.shift (x := N * 2 ^ n) (b := n) (L := L) (by rw [e]; exact h) (by rw [e]; exact hN)
  rw [Nat.add_comm]; exact this
end Go.Proofs.YtdhbjgedaclgcaaDoor
