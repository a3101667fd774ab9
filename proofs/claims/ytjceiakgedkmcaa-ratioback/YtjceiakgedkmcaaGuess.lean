/- limb.guess answers the quotient's limb, or one more. -/
import Derived.Test.YtjceiakgedkmcaaSeg
import Derived.BigQuiet
import Derived.Deep.LoopGhost
import Derived.Deep.QuietTactic
namespace Go.Proofs.Ytjceiakgedkmcaa
open Go.RowKit

/-- a guess by three limbs of two is the quotient or one more: P' top three limbs, D2 top two, K what they stand at -/
theorem guess_good {P P' pl D D2 dl K g q : Nat} (hP : P = P' * K + pl) (hD : D = D2 * K + dl) (hdl : dl < K) (hg : g * D2 ≤ P') (hgB : g < BB) (hq : q = P / D) (hqg : q ≤ g) (hbig : BB ≤ D2) :
    q ≤ g ∧ g ≤ q + 1 := by
  refine ⟨hqg, ?_⟩
  have hK : 0 < K := by omega
  have hDp : 0 < D := by
    have : 0 < D2 * K := Nat.mul_pos (by have := BB_pos; omega) hK
    omega
  rcases Nat.eq_zero_or_pos g with h0 | h0
  · omega
  · obtain ⟨g', rfl⟩ : ∃ g', g = g' + 1 := ⟨g - 1, by omega⟩
    have h1 : g' * D ≤ P := by
      have e1 : (g' + 1) * D2 * K ≤ P' * K := Nat.mul_le_mul_right _ hg
      have e2 : g' * D = g' * D2 * K + g' * dl := by rw [hD, Nat.mul_add, Nat.mul_assoc]
      have e3 : (g' + 1) * D2 * K = g' * D2 * K + D2 * K := by rw [Nat.add_mul, Nat.one_mul, Nat.add_mul]
      have e4 : g' * dl ≤ BB * K := Nat.mul_le_mul (by omega) (by omega)
      have e5 : BB * K ≤ D2 * K := Nat.mul_le_mul_right _ hbig
      omega
    have h2 : g' ≤ P / D := (Nat.le_div_iff_mul_le hDp).2 h1
    omega

/-- and no quotient's limb is passed by -/
theorem guess_floor {P P' pl D D2 dl K q : Nat} (hP : P = P' * K + pl) (hpl : pl < K) (hD : D = D2 * K + dl) (hq : q * D ≤ P) : q * D2 ≤ P' := by
  have hK : 0 < K := by omega
  have h1 : q * D2 * K ≤ q * D := by rw [hD, Nat.mul_add, Nat.mul_assoc]; omega
  have h2 : q * D2 * K < (P' + 1) * K := by rw [Nat.add_mul, Nat.one_mul]; omega
  have := Nat.lt_of_mul_lt_mul_right h2
  omega

/-- the guess in the making -/
structure GsAt (u v x t s q limb left : Nat) : Prop where
  eq : limb * t + left = u * BB + v
  q1 : q ≤ limb
  top : limb ≤ BB + 1

theorem GsAt.start {u v x t s q : Nat} (hv : v < BB) (ht : 2147483648 ≤ t) (hu : u ≤ t) (hq : q * (t * BB + s) ≤ (u * BB + v) * BB + x) (hx : x < BB) :
    GsAt u v x t s q ((u * BB + v) / t) ((u * BB + v) % t) := by
  have htp : 0 < t := by omega
  refine ⟨by rw [Nat.mul_comm]; exact Nat.div_add_mod _ _, ?_, ?_⟩
  · rw [Nat.le_div_iff_mul_le htp]
    have h1 : q * t * BB ≤ q * (t * BB + s) := by rw [Nat.mul_add, Nat.mul_assoc]; omega
    have h2 : q * t * BB < (u * BB + v + 1) * BB := by rw [Nat.add_mul, Nat.one_mul]; omega
    have := Nat.lt_of_mul_lt_mul_right h2
    omega
  · have : (u * BB + v) / t < BB + 2 := by
      rw [Nat.div_lt_iff_lt_mul htp, Nat.add_mul]
      have : u * BB ≤ BB * t := by rw [Nat.mul_comm]; exact Nat.mul_le_mul_left _ hu
      unfold BB at *; omega
    omega

theorem GsAt.top1 {u v x t s q left : Nat} (h : GsAt u v x t s q (BB + 1) left) (hv : v < BB) (hu : u ≤ t) : left + t < BB := by
  have e := h.eq
  have : u * BB ≤ t * BB := Nat.mul_le_mul_right _ hu
  rw [Nat.add_mul, Nat.one_mul, Nat.mul_comm BB t] at e
  omega

/-- it goes on only where the limb is too great -/
theorem GsAt.next {u v x t s q limb left : Nat} (h : GsAt u v x t s q limb left) (hq : q * (t * BB + s) ≤ (u * BB + v) * BB + x) (hqB : q < BB)
    (hgo : BB ≤ limb ∨ left * BB + x < limb * s) : 1 ≤ limb ∧ GsAt u v x t s q (limb - 1) (left + t) := by
  have hne : q < limb := by
    rcases hgo with hgo | hgo
    · omega
    · rcases Nat.lt_or_eq_of_le h.q1 with h' | h'
      · exact h'
      · exfalso
        subst h'
        have e := h.eq
        have e1 : q * (t * BB + s) = q * t * BB + q * s := by rw [Nat.mul_add, Nat.mul_assoc]
        have e2 : (u * BB + v) * BB = q * t * BB + left * BB := by rw [← e, Nat.add_mul]
        omega
  have hl1 : 1 ≤ limb := by omega
  have htop := h.top
  refine ⟨hl1, ⟨?_, by omega, by omega⟩⟩
  have e := h.eq
  obtain ⟨l', rfl⟩ : ∃ l', limb = l' + 1 := ⟨limb - 1, by omega⟩
  rw [Nat.add_mul, Nat.one_mul] at e
  rw [Nat.add_sub_cancel]; omega

theorem GsAt.fits {u v x t s q limb left : Nat} (h : GsAt u v x t s q limb left) (hn : limb * s ≤ left * BB + x) : limb * (t * BB + s) ≤ (u * BB + v) * BB + x := by
  have e1 : limb * (t * BB + s) = limb * t * BB + limb * s := by rw [Nat.mul_add, Nat.mul_assoc]
  have e2 : (u * BB + v) * BB = limb * t * BB + left * BB := by rw [← h.eq, Nat.add_mul]
  omega

theorem GsAt.fits_over {u v x t s q limb left : Nat} (h : GsAt u v x t s q limb left) (hs : s < BB) (hl : limb < BB) (hov : BB ≤ left) : limb * (t * BB + s) ≤ (u * BB + v) * BB + x := by
  refine h.fits ?_
  have h1 : limb * s ≤ BB * BB := Nat.mul_le_mul (by omega) (by omega)
  have h2 : BB * BB ≤ left * BB := Nat.mul_le_mul_right _ hov
  omega

theorem top2_eq (a b c K : Nat) : a + K * b + K * BB * c = (c * BB + b) * K + a := by grind
theorem top3_eq (u v x K p : Nat) : p + K * x + K * BB * v + K * BB * BB * u = ((u * BB + v) * BB + x) * K + p := by grind
theorem top2 (D : List Nat) (k : Nat) (h : D.length = k + 2) : val D = (lm D (k + 1) * BB + lm D k) * BB ^ k + val (D.take k) := by
  have e : val D = val (D.take (k + 1 + 1)) := by rw [List.take_of_length_le (by omega)]
  rw [e, take_succ_any, take_succ_any, Nat.pow_succ, top2_eq]
theorem top3 (P : List Nat) (k : Nat) (h : P.length = k + 3) : val P = ((lm P (k + 2) * BB + lm P (k + 1)) * BB + lm P k) * BB ^ k + val (P.take k) := by
  have e : val P = val (P.take (k + 1 + 1 + 1)) := by rw [List.take_of_length_le (by omega)]
  rw [e, take_succ_any, take_succ_any, take_succ_any, Nat.pow_succ BB (k + 1), Nat.pow_succ BB k, top3_eq]

theorem guess_u {P D : List Nat} {k : Nat} (hD : D.length = k + 2) (hP : P.length = k + 3) (oD : Ok D) (h : val P < val D * BB) : lm P (k + 2) ≤ lm D (k + 1) := by
  have e1 := top2 D k hD
  have e2 := top3 P k hP
  have d1 := val_lt (oD.take k)
  rw [List.length_take, Nat.min_eq_left (by omega)] at d1
  have d2 := oD.at k
  have hK : 0 < BB ^ k := Nat.pow_pos BB_pos
  have h1 : val D < (lm D (k + 1) + 1) * BB * BB ^ k := by
    rw [e1]
    have : (lm D (k + 1) * BB + lm D k + 1) * BB ^ k ≤ (lm D (k + 1) + 1) * BB * BB ^ k := Nat.mul_le_mul_right _ (by rw [Nat.add_mul, Nat.one_mul]; omega)
    rw [Nat.add_mul _ 1, Nat.one_mul] at this
    omega
  have h2 : lm P (k + 2) * BB * BB * BB ^ k ≤ val P := by
    rw [e2]
    have : lm P (k + 2) * BB * BB * BB ^ k ≤ ((lm P (k + 2) * BB + lm P (k + 1)) * BB + lm P k) * BB ^ k := Nat.mul_le_mul_right _ (by rw [Nat.add_mul]; omega)
    omega
  have h3 : val D * BB < (lm D (k + 1) + 1) * BB * BB ^ k * BB := Nat.mul_lt_mul_of_pos_right h1 BB_pos
  have h4 : lm P (k + 2) * (BB * BB * BB ^ k) < (lm D (k + 1) + 1) * (BB * BB * BB ^ k) := by
    have e5 : lm P (k + 2) * (BB * BB * BB ^ k) = lm P (k + 2) * BB * BB * BB ^ k := by rw [Nat.mul_assoc, Nat.mul_assoc, Nat.mul_assoc]
    have e6 : (lm D (k + 1) + 1) * (BB * BB * BB ^ k) = (lm D (k + 1) + 1) * BB * BB ^ k * BB := by
      rw [Nat.mul_assoc, Nat.mul_assoc, Nat.mul_assoc, Nat.mul_comm (BB ^ k) BB]
    omega
  have := Nat.lt_of_mul_lt_mul_right h4
  omega

theorem or_word2 (r x : Nat) (hr : r < 4294967296) (hx : x < 4294967296) : bits .or .u64 (IntKind.u64.wrap ((r : Int) * 4294967296)) (x : Int) = ((r * BB + x : Nat) : Int) := by
  have e : IntKind.u64.wrap ((r : Int) * 4294967296) = (r : Int) * 4294967296 := by rw [IntKind.wrap_u64]; omega
  rw [e, or_word r x hr hx]

theorem guess_fin {p d t s u v x pl dl K g : Nat} (hP : p = ((u * BB + v) * BB + x) * K + pl) (hD : d = (t * BB + s) * K + dl) (hdl : dl < K) (ht : 2147483648 ≤ t) (hg : g * (t * BB + s) ≤ (u * BB + v) * BB + x) (hgB : g < BB) (hq : p / d ≤ g) :
    p / d ≤ g ∧ g ≤ p / d + 1 :=
  guess_good hP hD hdl hg hgB rfl hq (by unfold BB; omega)

theorem guess_low {p d t s u v x pl dl K : Nat} (hP : p = ((u * BB + v) * BB + x) * K + pl) (hpl : pl < K) (hD : d = (t * BB + s) * K + dl) : (p / d) * (t * BB + s) ≤ (u * BB + v) * BB + x :=
  guess_floor hP hpl hD (Nat.div_mul_le_self p d)

theorem tdiv_word (n t : Nat) (hn : n < 18446744073709551616) : IntKind.u64.wrap ((n : Int).tdiv (t : Int)) = ((n / t : Nat) : Int) := by
  have e : (n : Int).tdiv (t : Int) = ((n / t : Nat) : Int) := by rw [Int.tdiv_eq_ediv_of_nonneg (Int.natCast_nonneg n), Int.natCast_ediv]
  have := Nat.div_le_self n t
  rw [e, IntKind.wrap_u64]; generalize n / t = m at this ⊢; omega

set_option maxRecDepth 100000 in
set_option maxHeartbeats 2000000 in
theorem guess_any (gb ob nb c1 g j np c2 k : Nat) (P D : List Nat) (w : World) (hD : D.length = k + 2) (hP : P.length = k + 3) (oD : Ok D) (oP : Ok P) (hnb : nb = k + 2) (hnp : np = k + 3)
    (hcD : ∀ i, i < D.length → w.cell? ⟨gb, ob + i, none⟩ = some (.int .u32 (lm D i : Nat))) (hcP : ∀ i, i < P.length → w.cell? ⟨g, j + i, none⟩ = some (.int .u32 (lm P i : Nat)))
    (htop : 2147483648 ≤ lm D (k + 1)) (hlt : val P < val D * BB) (hk : k ≤ 4000000000) :
    Calls Try.prog 109 #[.slice (some ⟨g, j, none⟩) np c2, .slice (some ⟨gb, ob, none⟩) nb c1] w fun e w' =>
      ∃ q : Nat, e = .returned (.int .u32 (q : Nat)) ∧ q < BB ∧ val P / val D ≤ q ∧ q ≤ val P / val D + 1 ∧ Below w.heap.size w w' := by
  subst hnb hnp
  have d0 := hcD k (by omega)
  have d1 := hcD (k + 1) (by omega)
  have p0 := hcP k (by omega)
  have p1 := hcP (k + 1) (by omega)
  have p2 := hcP (k + 2) (by omega)
  have hu := guess_u hD hP oD hlt
  have HP := hide (top3 P k hP)
  have HD := hide (top2 D k hD)
  have bs := oD.at k
  have bt := oD.at (k + 1)
  have bx := oP.at k
  have bv := oP.at (k + 1)
  have bu := oP.at (k + 2)
  have HDL := hide (val_lt (oD.take k))
  have HPL := hide (val_lt (oP.take k))
  have HLT := hide hlt
  clear hcD hcP hD hP oD oP hlt
  generalize lm D k = s at *
  generalize lm D (k + 1) = t at *
  generalize lm P k = x at *
  generalize lm P (k + 1) = v at *
  generalize lm P (k + 2) = u at *
  unfold BB at bs bt bx bv bu
  have hor := or_word2 u v bu bv
  have hor' := or_word u v bu bv
  go_enter Try.func109, Try.ntmps109
  go_wp2
  go_step3
  go_wp2
  go_quiet (fail)
  go_wp2
  go_quiet (fail)
  go_wp2
  go_quiet (fail)
  go_wp2
  try (go_step3; go_wp2)
  have hbn : ((u : Int) * (BB : Nat) + (v : Int)) = ((u * BB + v : Nat) : Int) := by rw [Int.natCast_add, Int.natCast_mul]
  have hb64 : u * BB + v < 18446744073709551616 := by unfold BB; omega
  have hw1 := tdiv_word (u * BB + v) t hb64
  have hw2 : (((u * BB + v : Nat) : Int) % (t : Int)) = (((u * BB + v) % t : Nat) : Int) := by rw [Int.natCast_emod]
  rw [hbn, hw1, hw2]
  have HKD : Hid (val (D.take k) < BB ^ k) := by
    have h1 := HDL.out
    exact Nat.lt_of_lt_of_le h1 (Nat.pow_le_pow_right BB_pos (by rw [List.length_take]; omega))
  have HKP : Hid (val (P.take k) < BB ^ k) := by
    have h1 := HPL.out
    exact Nat.lt_of_lt_of_le h1 (Nat.pow_le_pow_right BB_pos (by rw [List.length_take]; omega))
  have HQB : Hid (val P / val D < BB) := Nat.div_lt_of_lt_mul HLT.out
  have HLOW := hide (guess_low HP.out HKP.out HD.out)
  have HST := hide (GsAt.start (q := val P / val D) (s := s) bv htop hu HLOW.out bx)
  have hmt : (u * BB + v) % t < BB := Nat.lt_trans (Nat.mod_lt _ (by omega)) bt
  have HMT := hide hmt
  clear hbn hb64 hw1 hw2 hor hor' hmt d0 d1 p1 p2
  obtain ⟨l0, hl0⟩ : ∃ l0, l0 = (u * BB + v) / t := ⟨_, rfl⟩
  obtain ⟨f0, hf0⟩ : ∃ f0, f0 = (u * BB + v) % t := ⟨_, rfl⟩
  obtain ⟨n0, hn0⟩ : ∃ n0, n0 = u * BB + v := ⟨_, rfl⟩
  rw [← hl0, ← hf0] at HST
  rw [← hf0] at HMT
  rw [← hl0, ← hf0, ← hn0, show k + 2 - 1 = k + 1 from by omega]
  clear hl0 hf0 hn0
  go_loopw [9, 10] (fun lv fv wr => ∃ limb left : Nat, lv = .int .u64 limb ∧ fv = .int .u64 left ∧ GsAt u v x t s (val P / val D) limb left ∧ left < BB ∧ Below w.heap.size w wr) (fun lv _ _ => (intOf lv).toNat)
  case atStart => exact ⟨_, _, rfl, rfl, HST.out, HMT.out, below_drewN (below_drewN (below_drewN (Below.refl _ _) _) _) _⟩
  case round =>
    obtain ⟨limb, left, rfl, rfl, hat, hlf, hbel⟩ := hrel
    have htp := hat.top
    have HAT := hide hat
    have p0' := (hbel.cell (p := ⟨g, j + k, none⟩) (World.block_lt_of_cell? w _ p0)).trans p0
    have HBEL := hide hbel
    unfold BB at htp hlf
    clear hat hbel
    have hor2 := or_word2 left x hlf bx
    have hor3 := or_word left x hlf bx
    by_cases hbig : 4294967296 ≤ limb
    · obtain ⟨hl1, hnx⟩ := HAT.out.next HLOW.out HQB.out (.inl hbig)
      have HNX := hide hnx
      clear hnx
      by_cases hov : 4294967296 ≤ left + t
      · have hlb : limb - 1 < 4294967296 := by
          by_cases e : limb = BB + 1
          · exfalso
            have h1 := HAT.out
            rw [e] at h1
            have := h1.top1 bv hu
            unfold BB at this; omega
          · unfold BB at e; omega
        have hlI : ((limb : Int) - 1) = ((limb - 1 : Nat) : Int) := by omega
        have HF := hide (guess_fin HP.out HD.out HKD.out htop (HNX.out.fits_over bs hlb hov) hlb HNX.out.q1)
        go_wp2
        go_ret
        exact ⟨limb - 1, rfl, hlb, HF.out.1, HF.out.2, HBEL.out⟩
      · go_wp2
        go_roundw
        case rel => exact ⟨limb - 1, left + t, by congr 1; omega, by congr 1, HNX.out, by unfold BB; omega, HBEL.out⟩
        case measure => simp [intOf]; omega
    · have hlb : limb < 4294967296 := by omega
      obtain ⟨hm0, hmm⟩ := mul_boundI limb s hlb bs
      by_cases hmul : left * BB + x < limb * s
      · have hmulI : (left : Int) * (BB : Nat) + (x : Int) < (limb : Int) * (s : Int) := by rw [← Int.natCast_mul, ← Int.natCast_mul]; omega
        obtain ⟨hl1, hnx⟩ := HAT.out.next HLOW.out HQB.out (.inr hmul)
        have HNX := hide hnx
        clear hnx hmul
        by_cases hov : 4294967296 ≤ left + t
        · have hlb1 : limb - 1 < 4294967296 := by omega
          have hlI : ((limb : Int) - 1) = ((limb - 1 : Nat) : Int) := by omega
          have HF := hide (guess_fin HP.out HD.out HKD.out htop (HNX.out.fits_over bs hlb1 hov) hlb1 HNX.out.q1)
          go_wp2
          try rw [Exit.noGoto_ret]
          go_ret
          exact ⟨limb - 1, rfl, hlb1, HF.out.1, HF.out.2, HBEL.out⟩
        · go_wp2
          go_roundw
          case rel => exact ⟨limb - 1, left + t, by congr 1; omega, by congr 1, HNX.out, by unfold BB; omega, HBEL.out⟩
          case measure => simp [intOf]; omega
      · have hmulI : ¬ (left : Int) * (BB : Nat) + (x : Int) < (limb : Int) * (s : Int) := by rw [← Int.natCast_mul, ← Int.natCast_mul]; omega
        have HF := hide (guess_fin HP.out HD.out HKD.out htop (HAT.out.fits (by omega)) hlb HAT.out.q1)
        clear hmul
        go_wp2
        try rw [Exit.noGoto_ret]
        go_ret
        exact ⟨limb, rfl, hlb, HF.out.1, HF.out.2, HBEL.out⟩
end Go.Proofs.Ytjceiakgedkmcaa
