/- Points: what divides both coordinates (the program's divisor, the document's Common). -/
import Derived.Test.YtenmogmdijnlhaaDoorPtIn
namespace Go.Proofs.YtenmogmdijnlhaaDoor
open Go.RowKit

/-- the greatest number that divides both -/
def gI (a b : Int) : Int := (Int.gcd a b : Int)

theorem gI_tmod (a b : Int) : gI b (a.tmod b) = gI a b := by
  unfold gI
  congr 1
  have h1 : ∀ c : Nat, c ∣ Int.gcd b (a.tmod b) ↔ c ∣ Int.gcd a b := by
    intro c
    rw [Int.dvd_gcd_iff, Int.dvd_gcd_iff]
    have e : b * a.tdiv b + a.tmod b = a := Int.mul_tdiv_add_tmod a b
    constructor
    · rintro ⟨h, k⟩
      exact ⟨by rw [← e]; exact Int.dvd_add (Int.dvd_mul_of_dvd_left h) k, h⟩
    · rintro ⟨h, k⟩
      refine ⟨k, ?_⟩
      have : a.tmod b = a - b * a.tdiv b := by omega
      rw [this]; exact Int.dvd_sub h (Int.dvd_mul_of_dvd_left k)
  exact Nat.dvd_antisymm ((h1 _).1 (Nat.dvd_refl _)) ((h1 _).2 (Nat.dvd_refl _))

set_option maxRecDepth 100000 in
set_option maxHeartbeats 1000000 in
theorem divisor_any (a b : Int) (w : World) (ha : -9223372036854775808 ≤ a) (ha' : a < 9223372036854775808) (hb : -9223372036854775808 < b) (hb' : b < 9223372036854775808) (hab : a = -9223372036854775808 → 0 < b) :
    Calls Tryd.prog 83 #[.agg #[.int .i64 a, .int .i64 b]] w fun e w' => e = .returned (.int .i64 (gI a b)) ∧ Below w.heap.size w w' := by
  go_enter Tryd.func83, Tryd.ntmps83
  go_wp2
  go_quiet (fail)
  go_wp2
  go_loopw [3, 4] (fun xv yv wr => ∃ x y : Int, xv = .int .i64 x ∧ yv = .int .i64 y ∧ gI x y = gI a b ∧ -9223372036854775808 ≤ x ∧ x < 9223372036854775808 ∧ -9223372036854775808 < y ∧ y < 9223372036854775808 ∧ (x = -9223372036854775808 → 0 < y) ∧ Below w.heap.size w wr) (fun _ yv _ => (intOf yv).natAbs)
  case atStart => exact ⟨a, b, rfl, rfl, rfl, ha, ha', hb, hb', hab, below_drewN (below_alloc _ _) _⟩
  case round =>
    obtain ⟨x, y, rfl, rfl, hg, h1, h2, h3, h4, h5, hbel⟩ := hrel
    have HG := hide hg
    have HB := hide hbel
    clear hg hbel
    by_cases hz : y = 0
    · subst hz
      by_cases hn : x < 0
      · go_wp2
        go_ret
        refine ⟨?_, HB.out⟩
        rw [← HG.out, show gI x 0 = -x from by unfold gI; rw [Int.gcd_zero]; omega]
        rfl
      · go_wp2
        go_ret
        refine ⟨?_, HB.out⟩
        rw [← HG.out, show gI x 0 = x from by unfold gI; rw [Int.gcd_zero]; omega]
        rfl
    · have ht : (x.tmod y).natAbs < y.natAbs := by rw [Int.natAbs_tmod]; exact Nat.mod_lt _ (by omega)
      have HT := hide ht
      clear ht
      go_wp2
      go_quiet (fail)
      go_wp2
      go_roundw
      case rel =>
        have ht := HT.out
        exact ⟨y, x.tmod y, rfl, rfl, (gI_tmod x y).trans HG.out, by omega, h4, by omega, by omega, fun h => by omega, below_drewN HB.out _⟩
      case measure => exact HT.out

/-- the greatest number below d that divides both -/
structure ComAt (a b : Int) (d : Nat) (g : Nat) : Prop where
  lt : g < d
  zero : g = 0 → ∀ c : Nat, 0 < c → c < d → ¬ ((c : Int) ∣ a ∧ (c : Int) ∣ b)
  dv : 0 < g → (g : Int) ∣ a ∧ (g : Int) ∣ b
  top : ∀ c : Nat, g < c → c < d → ¬ ((c : Int) ∣ a ∧ (c : Int) ∣ b)

theorem ComAt.start (a b : Int) : ComAt a b 1 0 := ⟨by omega, fun _ c h1 h2 => by omega, fun h => by omega, fun c h1 h2 => by omega⟩
theorem ComAt.yes {a b : Int} {d : Nat} (hd : 0 < d) (h1 : (d : Int) ∣ a) (h2 : (d : Int) ∣ b) : ComAt a b (d + 1) d :=
  ⟨by omega, fun e => by omega, fun _ => ⟨h1, h2⟩, fun c k1 k2 => by omega⟩
theorem ComAt.no {a b : Int} {d g : Nat} (h : ComAt a b d g) (hn : ¬ ((d : Int) ∣ a ∧ (d : Int) ∣ b)) : ComAt a b (d + 1) g := by
  refine ⟨by have := h.lt; omega, fun e c k1 k2 => ?_, h.dv, fun c k1 k2 => ?_⟩
  · rcases Nat.lt_succ_iff_lt_or_eq.1 k2 with k | rfl
    · exact h.zero e c k1 k
    · exact hn
  · rcases Nat.lt_succ_iff_lt_or_eq.1 k2 with k | rfl
    · exact h.top c k1 k
    · exact hn
theorem ComAt.last {a b : Int} {g : Nat} (h : ComAt a b 17 g) (ha : a.natAbs ≤ 16) (hb : b.natAbs ≤ 16) (hne : ¬ (a = 0 ∧ b = 0)) : (g : Int) = gI a b := by
  have hp : 0 < Int.gcd a b := Int.gcd_pos_iff.2 (by omega)
  have hle : Int.gcd a b ≤ 16 := by
    by_cases e : a = 0
    · have : b ≠ 0 := fun e' => hne ⟨e, e'⟩
      exact Nat.le_trans (Int.gcd_le_natAbs_right a this) hb
    · exact Nat.le_trans (Int.gcd_le_natAbs_left b e) ha
  have hd : ((Int.gcd a b : Nat) : Int) ∣ a ∧ ((Int.gcd a b : Nat) : Int) ∣ b := ⟨Int.gcd_dvd_left _ _, Int.gcd_dvd_right _ _⟩
  unfold gI
  congr 1
  by_cases e0 : g = 0
  · exact absurd hd (h.zero e0 _ hp (by omega))
  · have hg := h.dv (by omega)
    have h1 : g ∣ Int.gcd a b := Int.dvd_gcd hg.1 hg.2
    have h2 : g ≤ Int.gcd a b := Nat.le_of_dvd hp h1
    rcases Nat.lt_or_ge g (Int.gcd a b) with k | k
    · exact absurd hd (h.top _ k (by omega))
    · omega

end Go.Proofs.YtenmogmdijnlhaaDoor
