/- The document's answers for layer 1 (swageref01): Twos, Shl, Shr; limb's Bits and Twos of 0, Shl and Shr refused. -/
import Derived.Test.YtamcmdabhlbnjaaDoorLShift
import Derived.Test.YtamcmdabhlbnjaaDoorRefMul
import Derived.Test.YtamcmdabhlbnjaaDoorRefDiv
import Derived.Laws.AppendOwnNone
import Derived.Deep.Cut
import Derived.Deep.RegionWith
import Derived.Test.YtamcmdabhlbnjaaDoorCalm
namespace Go.Proofs.YtamcmdabhlbnjaaDoor
open Go.RowKit

theorem exists_twos (N : Nat) (h : 0 < N) : ∃ K, IsTwos N K := by
  obtain ⟨m, hm, _⟩ := Lib.ctzFrom_spec N N h Nat.lt_two_pow_self
  exact ⟨_, m, hm⟩
theorem twos_bit {N K : Nat} (h : IsTwos N K) : bitB N K = true := by
  obtain ⟨m, rfl⟩ := h
  unfold bitB
  rw [Nat.mul_div_cancel_left _ (Nat.two_pow_pos K)]
  simp
theorem twos_below {N K n : Nat} (h : IsTwos N K) (hn : n < K) : bitB N n = false := by
  obtain ⟨m, rfl⟩ := h
  obtain ⟨d, rfl⟩ : ∃ d, K = n + 1 + d := ⟨K - (n + 1), by omega⟩
  unfold bitB
  rw [Nat.pow_add, Nat.pow_succ, Nat.mul_assoc, Nat.mul_assoc, Nat.mul_div_cancel_left _ (Nat.two_pow_pos n)]
  simp
theorem twos_len {N K L : Nat} (h : IsTwos N K) (hL : IsLen N L) : K < L := by
  obtain ⟨m, rfl⟩ := h
  obtain ⟨h1, _⟩ := hL
  have h2 : 2 ^ K ≤ 2 ^ K * (2 * m + 1) := Nat.le_mul_of_pos_right _ (by omega)
  exact (Nat.pow_lt_pow_iff_right (a := 2) (by decide)).1 (Nat.lt_of_le_of_lt h2 h1)

set_option maxRecDepth 100000 in
set_option maxHeartbeats 1000000 in
theorem rbits_zero (v : Value) (xs : List Nat) (w : World) (h : Nums w v xs) (hlen : xs.length ≤ 1000000) (hz : val xs = 0) :
    Calls Tryd.prog 12 #[v] w fun e w' => e = .returned (.int .i64 0) ∧ Below w.heap.size w w' := by
  go_enter Tryd.func12, Tryd.ntmps12
  go_wp2_with fail
  refine (rnorm_any _ xs _ h (by omega)).mono ?_
  rintro e w1 ⟨v1, rfl, hO, hb⟩
  rw [hz, lim_zero] at hO
  have HB := hide hb
  clear hb h
  have hN := hO.nums (fun x hx => by cases hx)
  obtain ⟨_, a, c, rfl, _, _, _⟩ := hN
  clear hO
  go_wp2
  go_ret
  exact ⟨rfl, HB.out⟩
set_option maxRecDepth 100000 in
set_option maxHeartbeats 1000000 in
theorem lbits_zero (v : Value) (xs : List Nat) (w : World) (h : Nums w v xs) (hz : val xs = 0) :
    Calls Tryd.prog 11 #[v] w fun e w' => e = .returned (.int .i64 0) ∧ w' = w := by
  go_enter Tryd.func11, Tryd.ntmps11
  go_wp2_with fail
  refine (trim_any _ _ _ h).mono ?_
  rintro e w2 ⟨v3, rfl, rfl, hN3, _⟩
  rw [hz, lim_zero] at hN3
  obtain ⟨_, a, c, rfl, _, _, _⟩ := hN3
  clear h
  go_wp2
  go_ret
  exact ⟨rfl, rfl⟩
theorem lm_zero {xs : List Nat} (hz : val xs = 0) : ∀ i, lm xs i = 0 := by
  induction xs with
  | nil => intro i; simp [lm]
  | cons x xs ih =>
    intro i
    simp only [val] at hz
    have h1 : x = 0 := by omega
    have h2 : val xs = 0 := by
      have : BB * val xs = 0 := by omega
      rcases Nat.mul_eq_zero.1 this with h | h
      · unfold BB at h; omega
      · exact h
    cases i with
    | zero => simpa [lm] using h1
    | succ i => simpa [lm] using ih h2 i
set_option maxRecDepth 100000 in
set_option maxHeartbeats 2000000 in
theorem twos_zero (v : Value) (xs : List Nat) (w : World) (h : Nums w v xs) (hz : val xs = 0) :
    Calls Tryd.prog 15 #[v] w fun e w' => e = .returned (.int .i64 0) ∧ w' = w := by
  have HL := hide (lm_zero hz)
  obtain ⟨_, a1, c1, rfl, hl, hm, hc⟩ := h
  unfold maxLen at hm
  have HC := hide hc
  clear hc hz
  go_enter Tryd.func15, Tryd.ntmps15
  go_wp2
  go_loopw [2, 3, 4, 7] (fun _ _ _ iv wr => ∃ k : Nat, k ≤ xs.length ∧ iv = .int .i64 k ∧ wr = w) (fun _ _ _ iv _ => xs.length - (intOf iv).toNat)
  case atStart => exact ⟨0, Nat.zero_le _, rfl, rfl⟩
  case round =>
    obtain ⟨k, hk, rfl, rfl⟩ := hrel
    by_cases hlt : k < xs.length
    · obtain ⟨b, off, rfl, hx⟩ := HC.out (ne_nil hlt)
      have hxk := hx k hlt
      rw [HL.out k] at hxk
      clear hx
      go_wp2
      go_roundw
      case rel => exact ⟨k + 1, by omega, by go_num, by first | rfl | trivial⟩
      case measure => simp [intOf]; omega
    · have e : k = xs.length := by omega
      subst e
      go_wp2
      go_ret
      exact ⟨rfl, rfl⟩

set_option maxRecDepth 100000 in
set_option maxHeartbeats 2000000 in
theorem rtwos_zero (v : Value) (xs : List Nat) (w : World) (h : Nums w v xs) (hlen : xs.length ≤ 1000000) (hz : val xs = 0) :
    Calls Tryd.prog 16 #[v] w fun e w' => e = .returned (.int .i64 0) ∧ Below w.heap.size w w' := by
  have HN := hide h
  clear h
  go_enter Tryd.func16, Tryd.ntmps16
  go_wp2
  go_loopw [3] (fun iv wr => iv = .int .i64 0 ∧ wr = w) (fun _ _ => 0)
  case atStart => exact ⟨rfl, rfl⟩
  case round =>
    obtain ⟨rfl, rfl⟩ := hrel
    go_wp2_with fail
    refine (rbits_zero _ xs _ HN.out hlen hz).mono ?_
    rintro e w1 ⟨rfl, hb⟩
    have HB := hide hb
    clear hb
    go_wp2
    go_ret
    exact ⟨rfl, HB.out⟩
set_option maxRecDepth 100000 in
set_option maxHeartbeats 2000000 in
theorem rtwos_any (v : Value) (xs : List Nat) (K : Nat) (w : World) (h : Nums w v xs) (hlen : xs.length ≤ 1000000) (hp : 0 < val xs) (hK : IsTwos (val xs) K) :
    Calls Tryd.prog 16 #[v] w fun e w' => e = .returned (.int .i64 (K : Nat)) ∧ Below w.heap.size w w' := by
  have HN := hide h
  have HK := hide hK
  have HP := hide hp
  clear h hK
  go_enter Tryd.func16, Tryd.ntmps16
  go_wp2
  go_loopw [3] (fun iv wr => ∃ n : Nat, n ≤ K ∧ iv = .int .i64 n ∧ Below w.heap.size w wr) (fun iv _ => K - (intOf iv).toNat)
  case atStart => exact ⟨0, Nat.zero_le _, rfl, Below.refl _ _⟩
  case round =>
    obtain ⟨n, hn, rfl, hb⟩ := hrel
    have HB := hide hb
    clear hb
    go_wp2_with fail
    refine (rbits_any _ xs _ (HN.out.below HB.out) (by omega)).mono ?_
    rintro e w1 ⟨L, rfl, hL, hLb, hb⟩
    have hKL := twos_len HK.out hL
    replace HB := hide (HB.out.trans (hb.mono HB.out.size))
    clear hb hL
    have hL0 : (0 : Int) < (L : Int) := by omega
    go_wp2_with fail
    refine (rbit_any _ xs n _ (HN.out.below HB.out) (by omega)).mono ?_
    rintro e w2 ⟨rfl, rfl⟩
    by_cases hnK : n = K
    · subst hnK
      rw [twos_bit HK.out]
      go_wp2
      go_ret
      exact ⟨rfl, HB.out⟩
    · rw [twos_below HK.out (by omega)]
      go_wp2
      go_roundw
      case rel => exact ⟨n + 1, by omega, by go_num, HB.out⟩
      case measure => simp [intOf]; omega

theorem pow_word {s : Nat} (h : 2 ^ s < 4294967296) : (2 : Int) ^ s % 4294967296 = ((2 ^ s : Nat) : Int) := by
  have e : ((2 ^ s : Nat) : Int) = (2 : Int) ^ s := by rw [Int.natCast_pow]; rfl
  rw [← e]
  generalize 2 ^ s = p at *
  omega
theorem shl_mul {xs : List Nat} {n : Nat} : val (List.replicate (n / 32) 0 ++ xs) * 2 ^ (n % 32) = val xs * 2 ^ n := by
  rw [val_append, val_replicate, Nat.zero_add, List.length_replicate, show BB ^ (n / 32) = 2 ^ (32 * (n / 32)) from by rw [Nat.pow_mul]; rfl, Nat.mul_comm (2 ^ _), Nat.mul_assoc, ← Nat.pow_add]
  congr 2; omega
set_option maxRecDepth 100000 in
set_option maxHeartbeats 2000000 in
theorem rshl_any (v : Value) (xs : List Nat) (n : Nat) (w : World) (h : Nums w v xs) (hn : n ≤ 65536) (hlen : xs.length ≤ 1000000) (hnil : ∀ m c, v = .slice none m c → c = 0) :
    Calls Tryd.prog 19 #[v, .int .i64 n] w fun e w' => ∃ v', e = .returned v' ∧ Nums w' v' (lim (val xs * 2 ^ n)) ∧ Below w.heap.size w w' := by
  obtain ⟨i0, hi, hz0, hz1, hz2⟩ := info_parts Tryd.info32
  have HN := hide h
  obtain ⟨ho, a, cap, rfl, hl, hm, hc⟩ := h
  unfold maxLen at hm
  have HOK := hide ho
  have HC := hide hc
  clear ho hc
  go_enter Tryd.func19, Tryd.ntmps19
  go_wp2
  go_loopw [5, 6] (fun ov iv wr => ∃ k : Nat, k ≤ n / 32 ∧ iv = .int .i64 k ∧ Own wr w.heap.size ov (List.replicate k 0) ∧ Below w.heap.size w wr) (fun _ iv _ => n / 32 - (intOf iv).toNat)
  case atStart => exact ⟨0, Nat.zero_le _, rfl, World.ownsRow_nil _ _ _ _, Below.refl _ _⟩
  case round =>
    obtain ⟨k, hk, rfl, hO, hB⟩ := hrel
    have HO := hide hO
    have HB := hide hB
    clear hO hB
    have hsz := HB.out.size
    by_cases hlt : k < n / 32
    · have hltI : (k : Int) < (n : Int) / 32 := by omega
      have HSU : Hid (List.replicate (k + 1) 0 = List.replicate k (0 : Nat) ++ [0]) := hide List.replicate_succ'
      generalize hZ : List.replicate k (0 : Nat) = Z at *
      have hZl : Z.length = k := by rw [← hZ]; simp
      have HZ := hide hZ
      clear hZ
      subst hZl
      go_wp2_with (at_builtin; refine wpList_append_own _ rfl _ _ 22 rfl w.heap.size 32 i0 (.int .u32 0) 1 4 Tryd.underlying22 hi hz0 hz1 hz2 rfl (by decide) _ _ _ rfl (World.ownsRow.alloc HO.out _) ⟨_, 0, none⟩ 1 1 [.int .u32 ((0 : Int))] rfl rfl ?_ ?_ ?_ ?_ ?_ ?_)
      · intro i u hi'
        match i, hi' with
        | 0, hi' => simp at hi'; subst hi'; simp [Addr.add]
      · intro u hu; simp at hu; subst hu; rfl
      · unfold maxLen; omega
      · omega
      · simp; omega
      · intro v6 w6 hown6 hgrow6 _
        obtain ⟨hO6, hB6⟩ := append_own_step (n := 0) rfl HO.out hown6 hgrow6 HB.out (Nat.le_refl _)
        have HO6 := hide hO6
        have HB6 := hide hB6
        clear hown6 hgrow6 hO6 hB6
        go_wp2
        go_roundw
        case rel => exact ⟨Z.length + 1, by omega, by go_num, by rw [HSU.out]; exact HO6.out, HB6.out⟩
        case measure => simp [intOf]; omega
    · have e : k = n / 32 := by omega
      subst e
      have hltI : ¬ ((n / 32 : Nat) : Int) < (n : Int) / 32 := by omega
      have hltJ : ¬ (n : Int) / 32 < (n : Int) / 32 := by omega
      have fin : ∀ (W : World) (v6 : Value), Own W w.heap.size v6 (List.replicate (n / 32) 0 ++ xs) → Below w.heap.size w W → Hid (Nums W v6 (List.replicate (n / 32) 0 ++ xs)) ∧ Hid (Below w.heap.size w W) := fun W v6 h1 h2 =>
        ⟨h1.nums (Ok.append (show Ok (List.replicate (n / 32) 0) from fun x hx => by rw [List.eq_of_mem_replicate hx]; exact BB_pos) HOK.out), h2⟩
      have FIN := hide fin
      clear fin
      have HPL : Hid (2 ^ (n % 32) < 4294967296) := hide (Nat.lt_of_lt_of_le (Nat.pow_lt_pow_right (a := 2) (by decide) (show n % 32 < 32 by omega)) (by decide))
      have HPW : Hid ((2 : Int) ^ (n % 32) % 4294967296 = ((2 ^ (n % 32) : Nat) : Int)) := hide (pow_word HPL.out)
      cases a with
      | none =>
        have hx0 : xs = [] := by
          rcases HN.out.cases with ⟨e, _⟩ | ⟨_, b, off, c, e, _⟩
          · exact e
          · simp at e
        subst hx0
        obtain rfl := hnil _ _ rfl
        have hO6 : Own wr w.heap.size u5 (List.replicate (n / 32) 0 ++ []) := by rw [List.append_nil]; exact HO.out
        have hB6 := HB.out
        go_wp2_with (at_builtin; refine wpList_append_own_none rfl _ _ 22 rfl w.heap.size 32 i0 1 Tryd.underlying22 hi _ _ _ rfl HO.out rfl ?_)
        obtain ⟨HN6, HB6⟩ := FIN.out _ _ hO6 hB6
        clear hO6 hB6
        go_wp2_with fail
        rw [HPW.out]
        refine (rmulSmall_any _ _ (2 ^ (n % 32)) _ HN6.out HPL.out (by rw [List.length_append, List.length_replicate]; omega)).mono ?_
        rintro e w7 ⟨v7, rfl, hO7, hb⟩
        rw [shl_mul] at hO7
        have HN7 := hide (hO7.nums (ok_lim _))
        have HB7 := hide (HB6.out.trans (hb.mono HB6.out.size))
        clear hO7 hb
        go_wp2
        go_ret
        exact ⟨v7, rfl, HN7.out, HB7.out⟩
      | some ad =>
        have hnw := (HN.out.below HB.out).news
        have hlr : (List.replicate (n / 32) (0 : Nat)).length = n / 32 := by simp
        go_wp2_with (at_builtin; refine wpList_append_own _ rfl _ _ 22 rfl w.heap.size 32 i0 (.int .u32 0) 1 4 Tryd.underlying22 hi hz0 hz1 hz2 rfl (by decide) _ _ _ rfl HO.out ad _ _ (ints xs) rfl hnw.1 hnw.2 (ints_one _) ?c3 ?c4 ?c5 ?_)
        case c3 => unfold maxLen; omega
        case c4 => omega
        intro v6 w6 hown hgrow _
        have hO6 : Own w6 w.heap.size v6 (List.replicate (n / 32) 0 ++ xs) := by show World.ownsRow _ _ _ _ _ _ _; simpa [ints] using hown
        have hB6 := HB.out.grown hgrow hsz (fun k e => (World.ownsRow.lt HO.out k e).1)
        clear hown hgrow hnw hlr
        obtain ⟨HN6, HB6⟩ := FIN.out _ _ hO6 hB6
        clear hO6 hB6
        go_wp2_with fail
        rw [HPW.out]
        refine (rmulSmall_any _ _ (2 ^ (n % 32)) _ HN6.out HPL.out (by rw [List.length_append, List.length_replicate]; omega)).mono ?_
        rintro e w7 ⟨v7, rfl, hO7, hb⟩
        rw [shl_mul] at hO7
        have HN7 := hide (hO7.nums (ok_lim _))
        have HB7 := hide (HB6.out.trans (hb.mono HB6.out.size))
        clear hO7 hb
        go_wp2
        go_ret
        exact ⟨v7, rfl, HN7.out, HB7.out⟩

theorem Nums.dropN {w : World} {b off n cap : Nat} {xs : List Nat} (h : Nums w (.slice (some ⟨b, off, none⟩) n cap) xs) (k : Nat) (hk : k ≤ xs.length) : Nums w (.slice (some ⟨b, off + k, none⟩) (n - k) (cap - k)) (xs.drop k) := by
  obtain ⟨ho, a, cap', he, h1, h2, h3⟩ := h
  simp only [Value.slice.injEq] at he
  obtain ⟨rfl, rfl, rfl⟩ := he
  refine ⟨ho.drop k, _, cap - k, by rw [List.length_drop], by rw [List.length_drop]; omega, by omega, fun hne => ⟨b, off + k, rfl, fun i hi => ?_⟩⟩
  rw [List.length_drop] at hi
  obtain ⟨b', off', hb, hc⟩ := h3 (ne_nil (k := k + i) (by omega))
  simp only [Option.some.injEq, Addr.mk.injEq, and_true] at hb
  obtain ⟨rfl, rfl⟩ := hb
  have := hc (k + i) (by omega)
  rw [show off + k + i = off + (k + i) from by omega, this]
  simp [lm, List.getElem?_drop]
theorem div_parts {xs : List Nat} (n : Nat) (h : Ok xs) : val (xs.drop (n / 32)) / 2 ^ (n % 32) = val xs / 2 ^ n := (shr_val xs n h).symm
set_option maxRecDepth 100000 in
set_option maxHeartbeats 2000000 in
theorem rshr_any (v : Value) (xs : List Nat) (n : Nat) (w : World) (h : Nums w v xs) (hn : n ≤ 9223372036854775807) (hlen : xs.length ≤ 1000000) :
    Calls Tryd.prog 20 #[v, .int .i64 n] w fun e w' => ∃ v', e = .returned v' ∧ Nums w' v' (lim (val xs / 2 ^ n)) ∧ Below w.heap.size w w' := by
  have HN := hide h
  have HOK := hide h.ok
  have HDV := hide (div_parts (xs := xs) n h.ok)
  by_cases hz : val xs = 0
  · obtain ⟨_, a, cap, rfl, hl, hm, hc⟩ := h
    clear hc
    go_enter Tryd.func20, Tryd.ntmps20
    go_wp2_with fail
    refine (rbits_zero _ xs _ HN.out hlen hz).mono ?_
    rintro e w1 ⟨rfl, hb⟩
    have HB := hide hb
    have HZ := hide hz
    clear hb hz
    have hn0 : (0 : Int) ≤ (n : Int) := by omega
    go_wp2
    go_ret
    exact ⟨_, rfl, by rw [HZ.out, Nat.zero_div, lim_zero]; exact Nums.nil_mk _ _ _ (Nat.zero_le _), HB.out⟩
  · obtain ⟨_, a, cap, rfl, hl, hm, hc⟩ := h
    unfold maxLen at hm
    have HC := hide hc
    have HZ := hide hz
    clear hc hz
    go_enter Tryd.func20, Tryd.ntmps20
    go_wp2_with fail
    refine (rbits_any _ xs _ HN.out (by omega)).mono ?_
    rintro e w1 ⟨L, rfl, hL, hLb, hb⟩
    have HB := hide hb
    have HL := hide hL
    clear hb hL
    by_cases hge : L ≤ n
    · have hgeI : (L : Int) ≤ (n : Int) := by omega
      go_wp2
      go_ret
      refine ⟨_, rfl, ?_, HB.out⟩
      have e0 : val xs / 2 ^ n = 0 := Nat.div_eq_of_lt (Nat.lt_of_lt_of_le HL.out.1 (Nat.pow_le_pow_right (by decide) hge))
      rw [e0, lim_zero]; exact Nums.nil_mk _ _ _ (Nat.zero_le _)
    · have hgeI : ¬ (L : Int) ≤ (n : Int) := by omega
      have hlow : n / 32 < xs.length := by omega
      obtain ⟨b, off, rfl, hx⟩ := HC.out (ne_nil hlow)
      have hb1 : b < w.heap.size := World.block_lt_of_cell? w _ (hx (n / 32) hlow)
      clear hx
      obtain ⟨m, hm0⟩ : ∃ m, m = n / 32 := ⟨_, rfl⟩
      obtain ⟨s, hs0⟩ : ∃ s, s = n % 32 := ⟨_, rfl⟩
      obtain ⟨P, hP0⟩ : ∃ P, P = 2 ^ s := ⟨_, rfl⟩
      have hPL : P < 4294967296 := by rw [hP0, hs0]; exact Nat.lt_of_lt_of_le (Nat.pow_lt_pow_right (a := 2) (by decide) (show n % 32 < 32 by omega)) (by decide)
      have HPP : Hid (0 < P) := hide (by rw [hP0]; exact Nat.two_pow_pos _)
      have hW2 : IntKind.i64.wrap ((n : Int) / 32) = (m : Int) := by
        rw [show (n : Int) / 32 = (m : Int) from by omega, IntKind.wrap_i64]; omega
      have hT : (n : Int).tmod 32 = (s : Int) := by rw [hs0]; exact (Int.ofNat_tmod n 32).symm
      have hS : min s 32 = s := by omega
      have hW3 : IntKind.u32.wrap ((2 : Int) ^ s) = (P : Int) := by
        rw [show (2 : Int) ^ s = ((2 ^ s : Nat) : Int) from by rw [Int.natCast_pow]; rfl, ← hP0, IntKind.wrap_u32]; omega
      have HD : Hid (Nums w (.slice (some ⟨b, off + m, none⟩) (xs.length - m) (cap - m)) (xs.drop m)) := hide (HN.out.dropN m (by omega))
      have HPL := hide hPL
      have HDW : Hid (val (xs.drop m) / P = val xs / 2 ^ n) := hide (by rw [hP0, hm0, hs0]; exact HDV.out)
      have hm1 : m ≤ xs.length := by omega
      have hm2 : ¬ cap = m := by omega
      clear hP0 hm0 hs0 hPL hlow
      go_upto_region 3 with fail
      refine wp_calm (fun w' => Below w1.heap.size w1 w') (fun _ => true) 14 #[false, false, false, false, false, false, false, false, false, false, false, false, false, false] (by kernel_rfl) rfl rfl ?_
      have HF := hide ((Below.refl w1.heap.size w1).drew)
      generalize w1.drew = w1d at *
      refine Calm.take (i := 0) (v := ?_) (a' := ?_) (l' := #[true, false, false, false, false, false, false, false, false, false, false, false, false, false]) (d := some 12) rfl (by kernel_rfl) (by kernel_rfl) (by kernel_rfl) (by kernel_rfl) (fun _ _ _ h => h) HF.out rfl ?_ rfl rfl ?_ ?_
      rotate_left
      · intro w' hF; clear hF; go_simp; try rfl
      rotate_left
      · simp only [Act.put]; exact rfl
      refine Calm.take (i := 1) (v := ?_) (a' := ?_) (l' := #[true, true, false, false, false, false, false, false, false, false, false, false, false, false]) (d := some 13) rfl (by kernel_rfl) (by kernel_rfl) (by kernel_rfl) (by kernel_rfl) (fun _ _ _ h => h) HF.out rfl ?_ rfl rfl ?_ ?_
      rotate_left
      · intro w' hF; clear hF; go_simp; try rfl
      rotate_left
      · simp only [Act.put]; exact rfl
      refine Calm.take (i := 2) (v := ?_) (a' := ?_) (l' := #[true, true, true, false, false, false, false, false, false, false, false, false, false, false]) (d := some 14) rfl (by kernel_rfl) (by kernel_rfl) (by kernel_rfl) (by kernel_rfl) (fun _ _ _ h => h) HF.out rfl ?_ rfl rfl ?_ ?_
      rotate_left
      · intro w' hF; clear hF; go_simp; try rfl
      rotate_left
      · simp only [Act.put]; exact rfl
      refine Calm.take (i := 3) (v := ?_) (a' := ?_) (l' := #[true, true, true, true, false, false, false, false, false, false, false, false, false, false]) (d := some 15) rfl (by kernel_rfl) (by kernel_rfl) (by kernel_rfl) (by kernel_rfl) (fun _ _ _ h => h) HF.out rfl ?_ rfl rfl ?_ ?_
      rotate_left
      · intro w' hF; clear hF; go_simp; try rfl
      rotate_left
      · simp only [Act.put]; exact rfl
      refine Calm.take (i := 4) (v := ?_) (a' := ?_) (l' := #[true, true, true, true, true, false, false, false, false, false, false, false, false, false]) (d := some 16) rfl (by kernel_rfl) (by kernel_rfl) (by kernel_rfl) (by kernel_rfl) (fun _ _ _ h => h) HF.out rfl ?_ rfl rfl ?_ ?_
      rotate_left
      · intro w' hF; clear hF; go_simp; try rfl
      rotate_left
      · simp only [Act.put]; exact rfl
      refine Calm.take (i := 5) (v := ?_) (a' := ?_) (l' := #[true, true, true, true, true, true, false, false, false, false, false, false, false, false]) (d := some 17) rfl (by kernel_rfl) (by kernel_rfl) (by kernel_rfl) (by kernel_rfl) (fun _ _ _ h => h) HF.out rfl ?_ rfl rfl ?_ ?_
      rotate_left
      · intro w' hF; clear hF; go_simp; try rfl
      rotate_left
      · simp only [Act.put]; exact rfl
      refine Calm.take (i := 6) (v := ?_) (a' := ?_) (l' := #[true, true, true, true, true, true, true, false, false, false, false, false, false, false]) (d := some 18) rfl (by kernel_rfl) (by kernel_rfl) (by kernel_rfl) (by kernel_rfl) (fun _ _ _ h => h) HF.out rfl ?_ rfl rfl ?_ ?_
      rotate_left
      · intro w' hF; clear hF; go_simp; try rfl
      rotate_left
      · simp only [Act.put]; exact rfl
      refine Calm.one (i := 7) (l' := #[true, true, true, true, true, true, true, true, false, false, false, false, false, false]) (by kernel_rfl) rfl rfl rfl fun K hK => ?_
      go_simp
      have al := below_alloc w1d (.cells #[.int .u32 (P : Int)] 32)
      have HF' := hide (HF.out.trans ((al).mono HF.out.size))
      have BXd := hide ((lit_own w1d 0 P _ rfl (Nat.zero_le _)).nums (by intro x hx; simp at hx; subst hx; exact HPL.out))
      have GEd := hide (HF.out.size)
      refine hK _ _ (fun _ => HF'.out) ?_
      clear hK K HF al
      have HF := hide HF'.out
      clear HF'
      generalize w1d.alloc (.cells #[.int .u32 (P : Int)] 32) = wzd at *
      generalize w1d.heap.size = gd at *
      refine Calm.one (i := 8) (l' := #[true, true, true, true, true, true, true, true, true, false, false, false, false, false]) (by kernel_rfl) rfl rfl rfl fun K hK => ?_
      go_simp
      refine (rdivmod_any _ _ (xs.drop m) [P] _ ((HD.out.below HB.out).below HF.out) BXd.out (by rw [List.length_drop]; omega) (by simp) (by simp [val]; exact HPP.out)).mono ?_
      rintro e y1 ⟨q, r, rfl, hq, _, hb⟩
      replace BXd := hide (BXd.out.below hb)
      have HF' := hide (HF.out.trans ((hb).mono HF.out.size))
      have TQ := hide (hq)
      refine hK _ _ (fun _ => HF'.out) ?_
      clear hK K HF hb hq
      have HF := hide HF'.out
      clear HF'
      refine Calm.take (i := 9) (v := ?_) (a' := ?_) (l' := #[true, true, true, true, true, true, true, true, true, true, false, false, false, false]) (d := some 11) rfl (by kernel_rfl) (by kernel_rfl) (by kernel_rfl) (by kernel_rfl) (fun _ _ _ h => h) HF.out rfl ?_ rfl rfl ?_ ?_
      rotate_left
      · intro w' hF; clear hF; go_simp; try rfl
      rotate_left
      · simp only [Act.put]; exact rfl
      refine Calm.take (i := 10) (v := ?_) (a' := ?_) (l' := #[true, true, true, true, true, true, true, true, true, true, true, false, false, false]) (d := some 21) rfl (by kernel_rfl) (by kernel_rfl) (by kernel_rfl) (by kernel_rfl) (fun _ _ _ h => h) HF.out rfl ?_ rfl rfl ?_ ?_
      rotate_left
      · intro w' hF; clear hF; go_simp; try rfl
      rotate_left
      · simp only [Act.put]; exact rfl
      refine Calm.take (i := 11) (v := ?_) (a' := ?_) (l' := #[true, true, true, true, true, true, true, true, true, true, true, true, false, false]) (d := some 22) rfl (by kernel_rfl) (by kernel_rfl) (by kernel_rfl) (by kernel_rfl) (fun _ _ _ h => h) HF.out rfl ?_ rfl rfl ?_ ?_
      rotate_left
      · intro w' hF; clear hF; go_simp; try rfl
      rotate_left
      · simp only [Act.put]; exact rfl
      refine Calm.take (i := 12) (v := ?_) (a' := ?_) (l' := #[true, true, true, true, true, true, true, true, true, true, true, true, true, false]) (d := some 5) rfl (by kernel_rfl) (by kernel_rfl) (by kernel_rfl) (by kernel_rfl) (fun _ _ _ h => h) HF.out rfl ?_ rfl rfl ?_ ?_
      rotate_left
      · intro w' hF; clear hF; go_simp; try rfl
      rotate_left
      · simp only [Act.put]; exact rfl
      refine Calm.take (i := 13) (v := ?_) (a' := ?_) (l' := #[true, true, true, true, true, true, true, true, true, true, true, true, true, true]) (d := some 6) rfl (by kernel_rfl) (by kernel_rfl) (by kernel_rfl) (by kernel_rfl) (fun _ _ _ h => h) HF.out rfl ?_ rfl rfl ?_ ?_
      rotate_left
      · intro w' hF; clear hF; go_simp; try rfl
      rotate_left
      · simp only [Act.put]; exact rfl
      refine Calm.done (by kernel_rfl) ?_
      simp only [List.setIfInBounds_toArray, List.set_cons_succ, List.set_cons_zero]
      go_wp2
      go_ret
      exact ⟨q, rfl, by have := TQ.out; rw [show val [P] = P from by simp [val], HDW.out] at this; exact this, HB.out.trans (HF.out.mono HB.out.size)⟩
end Go.Proofs.YtamcmdabhlbnjaaDoor
