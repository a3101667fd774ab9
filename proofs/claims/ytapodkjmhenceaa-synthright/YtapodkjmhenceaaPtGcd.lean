/- Points: what divides both coordinates (the program's divisor, the document's Common). -/
import Derived.Test.YtapodkjmhenceaaPtIn
namespace Go.Proofs.Ytapodkjmhenceaa
open Go.RowKit

/-- the greatest number that divides both -/
def gI (a b : Int) : Int := (Int.gcd a b : Int)

theorem gI_tmod (a b : Int) : gI b (a.tmod b) = gI a b := by
  unfold gI
  congr 1
  have h1 : ∀ c : Nat, c ∣ Int.gcd b (a.tmod b) ↔ c ∣ Int.gcd a b := by
    intro c
    rw [Int.dvd_gcd_iff, Int.dvd_gcd_iff]
    have e : b * a.tdiv b + a.tmod b = a := Int.mul_tdiv_add_tmod a b
    constructor
    · rintro ⟨h, k⟩
      exact ⟨by rw [← e]; exact Int.dvd_add (Int.dvd_mul_of_dvd_left h) k, h⟩
    · rintro ⟨h, k⟩
      refine ⟨k, ?_⟩
      have : a.tmod b = a - b * a.tdiv b := by omega
      rw [this]; exact Int.dvd_sub h (Int.dvd_mul_of_dvd_left k)
  exact Nat.dvd_antisymm ((h1 _).1 (Nat.dvd_refl _)) ((h1 _).2 (Nat.dvd_refl _))

set_option maxRecDepth 100000 in
set_option maxHeartbeats 1000000 in
theorem divisor_any (a b : Int) (w : World) (ha : -9223372036854775808 ≤ a) (ha' : a < 9223372036854775808) (hb : -9223372036854775808 < b) (hb' : b < 9223372036854775808) (hab : a = -9223372036854775808 → 0 < b) :
    Calls Try.prog 142 #[.agg #[.int .i64 a, .int .i64 b]] w fun e w' => e = .returned (.int .i64 (gI a b)) ∧ Below w.heap.size w w' := by
  go_enter Try.func142, Try.ntmps142
  go_wp2
  go_quiet (fail)
  go_wp2
  go_loopw [3, 4] (fun xv yv wr => ∃ x y : Int, xv = .int .i64 x ∧ yv = .int .i64 y ∧ gI x y = gI a b ∧ -9223372036854775808 ≤ x ∧ x < 9223372036854775808 ∧ -9223372036854775808 < y ∧ y < 9223372036854775808 ∧ (x = -9223372036854775808 → 0 < y) ∧ Below w.heap.size w wr) (fun _ yv _ => (intOf yv).natAbs)
  case atStart => exact ⟨a, b, rfl, rfl, rfl, ha, ha', hb, hb', hab, below_drewN (below_alloc _ _) _⟩
  case round =>
    obtain ⟨x, y, rfl, rfl, hg, h1, h2, h3, h4, h5, hbel⟩ := hrel
    have HG := hide hg
    have HB := hide hbel
    clear hg hbel
    by_cases hz : y = 0
    · subst hz
      by_cases hn : x < 0
      · go_wp2
        go_ret
        refine ⟨?_, HB.out⟩
        rw [← HG.out, show gI x 0 = -x from by unfold gI; rw [Int.gcd_zero]; omega]
        rfl
      · go_wp2
        go_ret
        refine ⟨?_, HB.out⟩
        rw [← HG.out, show gI x 0 = x from by unfold gI; rw [Int.gcd_zero]; omega]
        rfl
    · have ht : (x.tmod y).natAbs < y.natAbs := by rw [Int.natAbs_tmod]; exact Nat.mod_lt _ (by omega)
      have HT := hide ht
      clear ht
      go_wp2
      go_quiet (fail)
      go_wp2
      go_roundw
      case rel =>
        have ht := HT.out
        exact ⟨y, x.tmod y, rfl, rfl, (gI_tmod x y).trans HG.out, by omega, h4, by omega, by omega, fun h => by omega, below_drewN HB.out _⟩
      case measure => exact HT.out

/-- the greatest number below d that divides both -/
structure ComAt (a b : Int) (d : Nat) (g : Nat) : Prop where
  lt : g < d
  zero : g = 0 → ∀ c : Nat, 0 < c → c < d → ¬ ((c : Int) ∣ a ∧ (c : Int) ∣ b)
  dv : 0 < g → (g : Int) ∣ a ∧ (g : Int) ∣ b
  top : ∀ c : Nat, g < c → c < d → ¬ ((c : Int) ∣ a ∧ (c : Int) ∣ b)

theorem ComAt.start (a b : Int) : ComAt a b 1 0 := ⟨by omega, fun _ c h1 h2 => by omega, fun h => by omega, fun c h1 h2 => by omega⟩
theorem ComAt.yes {a b : Int} {d : Nat} (hd : 0 < d) (h1 : (d : Int) ∣ a) (h2 : (d : Int) ∣ b) : ComAt a b (d + 1) d :=
  ⟨by omega, fun e => by omega, fun _ => ⟨h1, h2⟩, fun c k1 k2 => by omega⟩
theorem ComAt.no {a b : Int} {d g : Nat} (h : ComAt a b d g) (hn : ¬ ((d : Int) ∣ a ∧ (d : Int) ∣ b)) : ComAt a b (d + 1) g := by
  refine ⟨by have := h.lt; omega, fun e c k1 k2 => ?_, h.dv, fun c k1 k2 => ?_⟩
  · rcases Nat.lt_succ_iff_lt_or_eq.1 k2 with k | rfl
    · exact h.zero e c k1 k
    · exact hn
  · rcases Nat.lt_succ_iff_lt_or_eq.1 k2 with k | rfl
    · exact h.top c k1 k
    · exact hn
theorem ComAt.last {a b : Int} {g : Nat} (h : ComAt a b 17 g) (ha : a.natAbs ≤ 16) (hb : b.natAbs ≤ 16) (hne : ¬ (a = 0 ∧ b = 0)) : (g : Int) = gI a b := by
  have hp : 0 < Int.gcd a b := Int.gcd_pos_iff.2 (by omega)
  have hle : Int.gcd a b ≤ 16 := by
    by_cases e : a = 0
    · have : b ≠ 0 := fun e' => hne ⟨e, e'⟩
      exact Nat.le_trans (Int.gcd_le_natAbs_right a this) hb
    · exact Nat.le_trans (Int.gcd_le_natAbs_left b e) ha
  have hd : ((Int.gcd a b : Nat) : Int) ∣ a ∧ ((Int.gcd a b : Nat) : Int) ∣ b := ⟨Int.gcd_dvd_left _ _, Int.gcd_dvd_right _ _⟩
  unfold gI
  congr 1
  by_cases e0 : g = 0
  · exact absurd hd (h.zero e0 _ hp (by omega))
  · have hg := h.dv (by omega)
    have h1 : g ∣ Int.gcd a b := Int.dvd_gcd hg.1 hg.2
    have h2 : g ≤ Int.gcd a b := Nat.le_of_dvd hp h1
    rcases Nat.lt_or_ge g (Int.gcd a b) with k | k
    · exact absurd hd (h.top _ k (by omega))
    · omega

set_option maxRecDepth 100000 in
set_option maxHeartbeats 1000000 in
theorem common_any (a b : Int) (w : World) (ha : -16 ≤ a) (ha' : a ≤ 16) (hb : -16 ≤ b) (hb' : b ≤ 16) :
    Calls Try.prog 128 #[.agg #[.int .i64 a, .int .i64 b]] w fun e w' => e = .returned (.int .i64 (gI a b)) ∧ Below w.heap.size w w' := by
  have HX := hide (Box2.new w 61 (.int .i64 a) (.int .i64 b))
  go_enter Try.func128, Try.ntmps128
  go_wp2
  go_loopw [3, 4] (fun gv dv wr => ∃ g d : Nat, gv = .int .i64 g ∧ dv = .int .i64 d ∧ 1 ≤ d ∧ d ≤ 17 ∧ (¬ (a = 0 ∧ b = 0) → ComAt a b d g) ∧ (a = 0 ∧ b = 0 → g = 0) ∧ Box2 wr w.heap.size 61 (.int .i64 a) (.int .i64 b) ∧ Below w.heap.size w wr) (fun _ dv _ => 17 - (intOf dv).toNat)
  case atStart => exact ⟨0, 1, rfl, rfl, by omega, by omega, fun _ => ComAt.start a b, fun _ => rfl, HX.out, below_alloc _ _⟩
  case round =>
    obtain ⟨g, d, rfl, rfl, hd1, hd2, hc, hn, hx, hbel⟩ := hrel
    have HC := hide hc
    have HN := hide hn
    replace HX := hide hx
    have HB := hide hbel
    clear hc hn hbel
    have c0 := hx.cell0
    have c1 := hx.cell1
    clear hx
    by_cases hl : d ≤ 16
    · by_cases h1 : a.tmod d = 0
      · by_cases h2 : b.tmod d = 0
        · go_wp2_with fail
          refine (rnone_any a b _).mono ?_
          rintro e w1 ⟨rfl, hb1⟩
          replace HX := hide (HX.out.step hb1)
          replace HB := hide (HB.out.trans (hb1.mono HB.out.size))
          clear hb1 c0 c1
          have D1 : Hid ((d : Int) ∣ a) := Int.dvd_of_tmod_eq_zero h1
          have D2 : Hid ((d : Int) ∣ b) := Int.dvd_of_tmod_eq_zero h2
          clear h1 h2
          by_cases hz : a = 0 ∧ b = 0
          · rw [show noB a b = true from decide_eq_true hz]
            have HZ := hide hz
            clear hz
            go_wp2
            go_roundw
            case rel => exact ⟨g, d + 1, rfl, by go_num, by omega, by omega, fun h => absurd HZ.out h, HN.out, HX.out, HB.out⟩
            case measure => simp only [intOf]; omega
          · rw [show noB a b = false from decide_eq_false hz]
            have HZ := hide hz
            clear hz
            go_wp2
            go_roundw
            case rel => exact ⟨d, d + 1, rfl, by go_num, by omega, by omega, fun h => ComAt.yes (by omega) D1.out D2.out, fun h => absurd h HZ.out, HX.out, HB.out⟩
            case measure => simp only [intOf]; omega
        · have ND : Hid (¬ ((d : Int) ∣ a ∧ (d : Int) ∣ b)) := fun h => h2 (Int.tmod_eq_zero_of_dvd h.2)
          go_wp2
          go_roundw
          case rel => exact ⟨g, d + 1, rfl, by go_num, by omega, by omega, fun h => (HC.out h).no ND.out, HN.out, HX.out, HB.out⟩
          case measure => simp only [intOf]; omega
      · have ND : Hid (¬ ((d : Int) ∣ a ∧ (d : Int) ∣ b)) := fun h => h1 (Int.tmod_eq_zero_of_dvd h.1)
        go_wp2
        go_roundw
        case rel => exact ⟨g, d + 1, rfl, by go_num, by omega, by omega, fun h => (HC.out h).no ND.out, HN.out, HX.out, HB.out⟩
        case measure => simp only [intOf]; omega
    · have hd : d = 17 := by omega
      have HG : Hid ((g : Int) = gI a b) := by
        by_cases hz : a = 0 ∧ b = 0
        · show (g : Int) = gI a b
          rw [HN.out hz, hz.1, hz.2]; rfl
        · have k := HC.out hz
          rw [hd] at k
          exact k.last (by omega) (by omega) hz
      go_wp2
      go_ret
      refine ⟨?_, HB.out⟩
      rw [← HG.out]
      rfl
end Go.Proofs.Ytapodkjmhenceaa
