/- Points: Norm, Det, One (the program's and the document's), and the statements' own live. -/
import Derived.Test.YtlockdhhidghdabBox
import Derived.Test.YtlockdhhidghdabCalm
namespace Go.Proofs.Ytlockdhhidghdab
open Go.RowKit

/-- a coordinate that may be -/
def sm (n : Int) : Bool := decide (-16 ≤ n ∧ n ≤ 16)
def inB (a b : Int) : Bool := sm a && sm b
def noB (a b : Int) : Bool := decide (a = 0 ∧ b = 0)
theorem sm_yes {n : Int} (h : sm n = true) : -16 ≤ n ∧ n ≤ 16 := of_decide_eq_true h
theorem in_yes {a b : Int} (h : inB a b = true) : (-16 ≤ a ∧ a ≤ 16) ∧ (-16 ≤ b ∧ b ≤ 16) := by
  unfold inB at h; rw [Bool.and_eq_true] at h; exact ⟨sm_yes h.1, sm_yes h.2⟩

set_option maxRecDepth 100000 in
theorem small_any (n : Int) (w : World) :
    Calls Try.prog 105 #[.int .i64 n] w fun e w' => w' = w ∧ e = .returned (.bool (sm n)) := by
  by_cases h1 : -16 ≤ n
  · by_cases h2 : n ≤ 16
    · rw [show sm n = true from decide_eq_true ⟨h1, h2⟩]
      go_enter Try.func105, Try.ntmps105
      go_wp2
      go_ret
      simp
    · rw [show sm n = false from decide_eq_false (fun h => h2 h.2)]
      go_enter Try.func105, Try.ntmps105
      go_wp2
      go_ret
      simp
  · rw [show sm n = false from decide_eq_false (fun h => h1 h.1)]
    go_enter Try.func105, Try.ntmps105
    go_wp2
    go_ret
    simp

set_option maxRecDepth 100000 in
theorem in_any (a b : Int) (w : World) :
    Calls Try.prog 69 #[.agg #[.int .i64 a, .int .i64 b]] w fun e w' => e = .returned (.bool (inB a b)) ∧ Below w.heap.size w w' := by
  unfold inB
  go_enter Try.func69, Try.ntmps69
  go_wp2_with fail
  refine (small_any a _).mono ?_
  rintro e w1 ⟨rfl, rfl⟩
  cases h1 : sm a with
  | false =>
    go_wp2
    go_ret
    exact ⟨by simp [h1], below_alloc _ _⟩
  | true =>
    go_wp2_with fail
    refine (small_any b _).mono ?_
    rintro e w1 ⟨rfl, rfl⟩
    go_wp2
    go_ret
    exact ⟨by simp [h1], below_alloc _ _⟩


set_option maxRecDepth 100000 in
theorem rin_any (a b : Int) (w : World) :
    Calls Try.prog 32 #[.agg #[.int .i64 a, .int .i64 b]] w fun e w' => e = .returned (.bool (inB a b)) ∧ Below w.heap.size w w' := by
  have key : inB a b = (decide (-16 ≤ a) && decide (a ≤ 16) && decide (-16 ≤ b) && decide (b ≤ 16)) := by
    unfold inB sm; simp only [Bool.decide_and]; cases decide (-16 ≤ a) <;> cases decide (a ≤ 16) <;> rfl
  by_cases h1 : -16 ≤ a
  · by_cases h2 : a ≤ 16
    · by_cases h3 : -16 ≤ b
      · by_cases h4 : b ≤ 16
        · rw [key]
          simp only [h1, h2, h3, h4, decide_true, Bool.and_true]
          go_enter Try.func32, Try.ntmps32
          go_wp2
          go_ret
          exact ⟨by simp, below_alloc _ _⟩
        · rw [key]
          simp only [h4, decide_false, Bool.and_false]
          go_enter Try.func32, Try.ntmps32
          go_wp2
          go_ret
          exact ⟨by simp, below_alloc _ _⟩
      · rw [key]
        simp only [h3, decide_false, Bool.and_false, Bool.false_and]
        go_enter Try.func32, Try.ntmps32
        go_wp2
        go_ret
        exact ⟨by simp, below_alloc _ _⟩
    · rw [key]
      simp only [h2, decide_false, Bool.and_false, Bool.false_and]
      go_enter Try.func32, Try.ntmps32
      go_wp2
      go_ret
      exact ⟨by simp, below_alloc _ _⟩
  · rw [key]
    simp only [h1, decide_false, Bool.false_and]
    go_enter Try.func32, Try.ntmps32
    go_wp2
    go_ret
    exact ⟨by simp, below_alloc _ _⟩

end Go.Proofs.Ytlockdhhidghdab

namespace Go.Proofs.Ytlockdhhidghdab
open Go.RowKit

/-- the greatest number that divides both -/
def gI (a b : Int) : Int := (Int.gcd a b : Int)

theorem gI_tmod (a b : Int) : gI b (a.tmod b) = gI a b := by
  unfold gI
  congr 1
  have h1 : ∀ c : Nat, c ∣ Int.gcd b (a.tmod b) ↔ c ∣ Int.gcd a b := by
    intro c
    rw [Int.dvd_gcd_iff, Int.dvd_gcd_iff]
    have e : b * a.tdiv b + a.tmod b = a := Int.mul_tdiv_add_tmod a b
    constructor
    · rintro ⟨h, k⟩
      exact ⟨by rw [← e]; exact Int.dvd_add (Int.dvd_mul_of_dvd_left h) k, h⟩
    · rintro ⟨h, k⟩
      refine ⟨k, ?_⟩
      have : a.tmod b = a - b * a.tdiv b := by omega
      rw [this]; exact Int.dvd_sub h (Int.dvd_mul_of_dvd_left k)
  exact Nat.dvd_antisymm ((h1 _).1 (Nat.dvd_refl _)) ((h1 _).2 (Nat.dvd_refl _))

set_option maxRecDepth 100000 in
set_option maxHeartbeats 1000000 in
theorem divisor_any (a b : Int) (w : World) (ha : -9223372036854775808 ≤ a) (ha' : a < 9223372036854775808) (hb : -9223372036854775808 < b) (hb' : b < 9223372036854775808) (hab : a = -9223372036854775808 → 0 < b) :
    Calls Try.prog 123 #[.agg #[.int .i64 a, .int .i64 b]] w fun e w' => e = .returned (.int .i64 (gI a b)) ∧ Below w.heap.size w w' := by
  go_enter Try.func123, Try.ntmps123
  go_wp2
  go_quiet (fail)
  go_wp2
  go_loopw [3, 4] (fun xv yv wr => ∃ x y : Int, xv = .int .i64 x ∧ yv = .int .i64 y ∧ gI x y = gI a b ∧ -9223372036854775808 ≤ x ∧ x < 9223372036854775808 ∧ -9223372036854775808 < y ∧ y < 9223372036854775808 ∧ (x = -9223372036854775808 → 0 < y) ∧ Below w.heap.size w wr) (fun _ yv _ => (intOf yv).natAbs)
  case atStart => exact ⟨a, b, rfl, rfl, rfl, ha, ha', hb, hb', hab, below_drewN (below_alloc _ _) _⟩
  case round =>
    obtain ⟨x, y, rfl, rfl, hg, h1, h2, h3, h4, h5, hbel⟩ := hrel
    have HG := hide hg
    have HB := hide hbel
    clear hg hbel
    by_cases hz : y = 0
    · subst hz
      by_cases hn : x < 0
      · go_wp2
        go_ret
        refine ⟨?_, HB.out⟩
        rw [← HG.out, show gI x 0 = -x from by unfold gI; rw [Int.gcd_zero]; omega]
        rfl
      · go_wp2
        go_ret
        refine ⟨?_, HB.out⟩
        rw [← HG.out, show gI x 0 = x from by unfold gI; rw [Int.gcd_zero]; omega]
        rfl
    · have ht : (x.tmod y).natAbs < y.natAbs := by rw [Int.natAbs_tmod]; exact Nat.mod_lt _ (by omega)
      have HT := hide ht
      clear ht
      go_wp2
      go_quiet (fail)
      go_wp2
      go_roundw
      case rel =>
        have ht := HT.out
        exact ⟨y, x.tmod y, rfl, rfl, (gI_tmod x y).trans HG.out, by omega, h4, by omega, by omega, fun h => by omega, below_drewN HB.out _⟩
      case measure => exact HT.out

/-- the greatest number below d that divides both -/
structure ComAt (a b : Int) (d : Nat) (g : Nat) : Prop where
  lt : g < d
  zero : g = 0 → ∀ c : Nat, 0 < c → c < d → ¬ ((c : Int) ∣ a ∧ (c : Int) ∣ b)
  dv : 0 < g → (g : Int) ∣ a ∧ (g : Int) ∣ b
  top : ∀ c : Nat, g < c → c < d → ¬ ((c : Int) ∣ a ∧ (c : Int) ∣ b)

theorem ComAt.start (a b : Int) : ComAt a b 1 0 := ⟨by omega, fun _ c h1 h2 => by omega, fun h => by omega, fun c h1 h2 => by omega⟩
theorem ComAt.yes {a b : Int} {d : Nat} (hd : 0 < d) (h1 : (d : Int) ∣ a) (h2 : (d : Int) ∣ b) : ComAt a b (d + 1) d :=
  ⟨by omega, fun e => by omega, fun _ => ⟨h1, h2⟩, fun c k1 k2 => by omega⟩
theorem ComAt.no {a b : Int} {d g : Nat} (h : ComAt a b d g) (hn : ¬ ((d : Int) ∣ a ∧ (d : Int) ∣ b)) : ComAt a b (d + 1) g := by
  refine ⟨by have := h.lt; omega, fun e c k1 k2 => ?_, h.dv, fun c k1 k2 => ?_⟩
  · rcases Nat.lt_succ_iff_lt_or_eq.1 k2 with k | rfl
    · exact h.zero e c k1 k
    · exact hn
  · rcases Nat.lt_succ_iff_lt_or_eq.1 k2 with k | rfl
    · exact h.top c k1 k
    · exact hn
theorem ComAt.last {a b : Int} {g : Nat} (h : ComAt a b 17 g) (ha : a.natAbs ≤ 16) (hb : b.natAbs ≤ 16) (hne : ¬ (a = 0 ∧ b = 0)) : (g : Int) = gI a b := by
  have hp : 0 < Int.gcd a b := Int.gcd_pos_iff.2 (by omega)
  have hle : Int.gcd a b ≤ 16 := by
    by_cases e : a = 0
    · have : b ≠ 0 := fun e' => hne ⟨e, e'⟩
      exact Nat.le_trans (Int.gcd_le_natAbs_right a this) hb
    · exact Nat.le_trans (Int.gcd_le_natAbs_left b e) ha
  have hd : ((Int.gcd a b : Nat) : Int) ∣ a ∧ ((Int.gcd a b : Nat) : Int) ∣ b := ⟨Int.gcd_dvd_left _ _, Int.gcd_dvd_right _ _⟩
  unfold gI
  congr 1
  by_cases e0 : g = 0
  · exact absurd hd (h.zero e0 _ hp (by omega))
  · have hg := h.dv (by omega)
    have h1 : g ∣ Int.gcd a b := Int.dvd_gcd hg.1 hg.2
    have h2 : g ≤ Int.gcd a b := Nat.le_of_dvd hp h1
    rcases Nat.lt_or_ge g (Int.gcd a b) with k | k
    · exact absurd hd (h.top _ k (by omega))
    · omega

end Go.Proofs.Ytlockdhhidghdab

namespace Go.Proofs.Ytlockdhhidghdab
open Go.RowKit

theorem Try.infoPt : (Try.prog.info? 72).map (·.size) = some 2 := by kernel_rfl

/-- a point in memory -/
def PtBox (w : World) (B : Nat) (a b : Int) : Prop := Box2 w B 72 (.int .i64 a) (.int .i64 b)

/-- a struct of two cells is handed back -/
theorem ret_pt {fn : Func} {R : Ending → World → Prop} {a : Act} {w : World} {p : Tmp} (h : fn.results = #[.cell p 72]) (g : Nat) (x y : Value)
    (hp : a.tmps.getD p undef = .pointer (some ⟨g, 0, none⟩)) (hg : Box2 w g 72 x y) (hd : a.defers = []) (hR : R (.returned (.agg #[x, y])) w) : bodyPost Try.prog fn R .ret a w := by
  refine bodyPost_ret ?_ hd hR
  have hp' : a.tmps[p]?.getD undef = .pointer (some ⟨g, 0, none⟩) := by simpa using hp
  simp [results, h, hp', asAddr, run_loadVar_row w g 72 72 #[x, y] (0, 0) _ hg Try.underlying72 rfl Try.infoPt]
/-- a struct of two cells and a word are handed back -/
theorem ret_pte {fn : Func} {R : Ending → World → Prop} {a : Act} {w : World} {p u : Tmp} (h : fn.results = #[.cell p 72, .tmp u]) (g : Nat) (x y : Value)
    (hp : a.tmps.getD p undef = .pointer (some ⟨g, 0, none⟩)) (hg : Box2 w g 72 x y) (hd : a.defers = []) (hR : R (.returned (.tuple #[.agg #[x, y], a.tmps.getD u undef])) w) : bodyPost Try.prog fn R .ret a w := by
  refine bodyPost_ret ?_ hd hR
  have hp' : a.tmps[p]?.getD undef = .pointer (some ⟨g, 0, none⟩) := by simpa using hp
  simp [results, h, hp', asAddr, run_loadVar_row w g 72 72 #[x, y] (0, 0) _ hg Try.underlying72 rfl Try.infoPt]

/-- the divisor with the sign that makes a norm -/
def dsg (a b : Int) : Int := if b < 0 ∨ (b = 0 ∧ a < 0) then -gI a b else gI a b
def nA (a b : Int) : Int := if gI a b = 0 then a else a.tdiv (dsg a b)
def nB (a b : Int) : Int := if gI a b = 0 then b else b.tdiv (dsg a b)

theorem gI_nonneg (a b : Int) : 0 ≤ gI a b := Int.natCast_nonneg _
theorem gI_le (a b : Int) (M : Int) (ha : -M ≤ a) (ha' : a ≤ M) (hb : -M ≤ b) (hb' : b ≤ M) : gI a b ≤ M := by
  unfold gI
  by_cases e : a = 0
  · by_cases e' : b = 0
    · subst e; subst e'; simp; omega
    · have := Int.gcd_le_natAbs_right a e'; omega
  · have := Int.gcd_le_natAbs_left b e; omega

theorem tdiv_small (a g : Int) (h : -16 ≤ a) (h' : a ≤ 16) : -16 ≤ a.tdiv g ∧ a.tdiv g ≤ 16 := by
  have h1 : (a.tdiv g).natAbs ≤ a.natAbs := by rw [Int.natAbs_tdiv]; exact Nat.div_le_self _ _
  omega
theorem wrap_neg (a g : Int) (h : -16 ≤ a) (h' : a ≤ 16) : wrap64 (-a.tdiv g) = a.tdiv (-g) := by
  have := tdiv_small a g h h'
  rw [Int.tdiv_neg]; unfold wrap64; omega
theorem wrap_pos (a g : Int) (h : -16 ≤ a) (h' : a ≤ 16) : wrap64 (a.tdiv g) = a.tdiv g := by
  have := tdiv_small a g h h'
  unfold wrap64; omega
theorem agg_eq {a b p q : Int} (h1 : a = p) (h2 : b = q) : Ending.returned (.agg #[.int .i64 a, .int .i64 b]) = .returned (.agg #[.int .i64 p, .int .i64 q]) := by rw [h1, h2]

set_option maxRecDepth 100000 in
set_option maxHeartbeats 1000000 in
theorem norm0_any (a b : Int) (w : World) (ha : -16 ≤ a) (ha' : a ≤ 16) (hb : -16 ≤ b) (hb' : b ≤ 16) :
    Calls Try.prog 104 #[.agg #[.int .i64 a, .int .i64 b]] w fun e w' => e = .returned (.agg #[.int .i64 (nA a b), .int .i64 (nB a b)]) ∧ Below w.heap.size w w' := by
  have X1 := hide ((Box2.new w 72 (.int .i64 a) (.int .i64 b)).step (below_alloc _ (.cells #[.int .i64 0, .int .i64 0] 72)))
  have X2 := Box2.new (w.alloc (.cells #[.int .i64 a, .int .i64 b] 72)) 72 (.int .i64 0) (.int .i64 0)
  rw [World.size_alloc] at X2
  replace X2 := hide X2
  have HB := hide ((below_alloc w (.cells #[.int .i64 a, .int .i64 b] 72)).trans ((below_alloc _ (.cells #[.int .i64 0, .int .i64 0] 72)).mono (by simp)))
  obtain ⟨p, hp⟩ : ∃ p, p = nA a b := ⟨_, rfl⟩
  obtain ⟨q, hq⟩ : ∃ q, q = nB a b := ⟨_, rfl⟩
  rw [← hp, ← hq]
  have HP := hide hp
  have HQ := hide hq
  clear hp hq
  go_enter Try.func104, Try.ntmps104
  go_wp2_with fail
  generalize (w.alloc (.cells #[.int .i64 a, .int .i64 b] 72)).alloc (.cells #[.int .i64 0, .int .i64 0] 72) = w0 at *
  refine (divisor_any a b _ (by omega) (by omega) (by omega) (by omega) (by omega)).mono ?_
  rintro e w1 ⟨rfl, hb1⟩
  replace X1 := hide (X1.out.step hb1)
  replace X2 := hide (X2.out.step hb1)
  replace HB := hide (HB.out.trans (hb1.mono HB.out.size))
  clear hb1
  have hg0 := gI_nonneg a b
  have hg1 := gI_le a b 16 ha ha' hb hb'
  have c0 := X1.out.cell0
  have c1 := X1.out.cell1
  have d0 := X2.out.cell0
  have d1 := X2.out.cell1
  have f0 := X2.out.free 0
  have f1 := X2.out.free 1
  unfold nA at HP
  unfold nB at HQ
  by_cases hz : gI a b = 0
  · rw [if_pos hz] at HP HQ
    rw [hz]
    obtain rfl := HP.out
    obtain rfl := HQ.out
    clear hg0 hg1 hz
    go_wp2
    refine ret_pt rfl (w.heap.size + 1) _ _ rfl ((X2.out.set0 _).set1 _) rfl ?_
    exact ⟨rfl, (HB.out.setCell (p := ⟨w.heap.size + 1, 0, none⟩) (by simp) _).setCell (p := ⟨w.heap.size + 1, 1, none⟩) (by simp) _⟩
  · rw [if_neg hz] at HP HQ
    unfold dsg at HP HQ
    have wa := wrap_neg a (gI a b) ha ha'
    have wb := wrap_neg b (gI a b) hb hb'
    have wa' := wrap_pos a (gI a b) ha ha'
    have wb' := wrap_pos b (gI a b) hb hb'
    generalize gI a b = g at *
    by_cases h1 : b < 0 ∨ (b = 0 ∧ a < 0)
    · rw [if_pos h1] at HP HQ
      rw [← HP.out] at wa
      rw [← HQ.out] at wb
      have WA := hide wa
      have WB := hide wb
      clear wa wb wa' wb'
      rcases h1 with h1 | ⟨h1, h2⟩
      · go_wp2
        go_region
        go_wp2
        refine ret_pt rfl (w.heap.size + 1) _ _ rfl ((X2.out.set0 _).set1 _) rfl ?_
        exact ⟨agg_eq (by (first | exact WA.out | (rw [HP.out]; exact (Int.tdiv_eq_ediv_of_nonneg (by omega)).symm) | (rw [HP.out, Int.zero_tdiv]) | exact HP.out.symm)) (by (first | exact WB.out | (rw [HQ.out]; exact (Int.tdiv_eq_ediv_of_nonneg (by omega)).symm) | (rw [HQ.out, Int.zero_tdiv]) | exact HQ.out.symm)), ((HB.out.setCell (p := ⟨w.heap.size + 1, 0, none⟩) (by simp) _).setCell (p := ⟨w.heap.size + 1, 1, none⟩) (by simp) _).drew⟩
      · subst h1
        go_wp2
        go_region
        go_wp2
        refine ret_pt rfl (w.heap.size + 1) _ _ rfl ((X2.out.set0 _).set1 _) rfl ?_
        exact ⟨agg_eq (by (first | exact WA.out | (rw [HP.out]; exact (Int.tdiv_eq_ediv_of_nonneg (by omega)).symm) | (rw [HP.out, Int.zero_tdiv]) | exact HP.out.symm)) (by (first | exact WB.out | (rw [HQ.out]; exact (Int.tdiv_eq_ediv_of_nonneg (by omega)).symm) | (rw [HQ.out, Int.zero_tdiv]) | exact HQ.out.symm)), ((HB.out.setCell (p := ⟨w.heap.size + 1, 0, none⟩) (by simp) _).setCell (p := ⟨w.heap.size + 1, 1, none⟩) (by simp) _).drew⟩
    · rw [if_neg h1] at HP HQ
      rw [← HP.out] at wa'
      rw [← HQ.out] at wb'
      have WA := hide wa'
      have WB := hide wb'
      clear wa wb wa' wb'
      have h2 : ¬ b < 0 := fun h => h1 (.inl h)
      by_cases h3 : b = 0
      · have h4 : ¬ a < 0 := fun h => h1 (.inr ⟨h3, h⟩)
        subst h3
        clear h1 h2
        go_wp2
        go_region
        go_wp2
        refine ret_pt rfl (w.heap.size + 1) _ _ rfl ((X2.out.set0 _).set1 _) rfl ?_
        exact ⟨agg_eq (by (first | exact WA.out | (rw [HP.out]; exact (Int.tdiv_eq_ediv_of_nonneg (by omega)).symm) | (rw [HP.out, Int.zero_tdiv]) | exact HP.out.symm)) (by (first | exact WB.out | (rw [HQ.out]; exact (Int.tdiv_eq_ediv_of_nonneg (by omega)).symm) | (rw [HQ.out, Int.zero_tdiv]) | exact HQ.out.symm)), ((HB.out.setCell (p := ⟨w.heap.size + 1, 0, none⟩) (by simp) _).setCell (p := ⟨w.heap.size + 1, 1, none⟩) (by simp) _).drew⟩
      · clear h1
        go_wp2
        go_region
        go_wp2
        refine ret_pt rfl (w.heap.size + 1) _ _ rfl ((X2.out.set0 _).set1 _) rfl ?_
        exact ⟨agg_eq (by (first | exact WA.out | (rw [HP.out]; exact (Int.tdiv_eq_ediv_of_nonneg (by omega)).symm) | (rw [HP.out, Int.zero_tdiv]) | exact HP.out.symm)) (by (first | exact WB.out | (rw [HQ.out]; exact (Int.tdiv_eq_ediv_of_nonneg (by omega)).symm) | (rw [HQ.out, Int.zero_tdiv]) | exact HQ.out.symm)), ((HB.out.setCell (p := ⟨w.heap.size + 1, 0, none⟩) (by simp) _).setCell (p := ⟨w.heap.size + 1, 1, none⟩) (by simp) _).drew⟩

end Go.Proofs.Ytlockdhhidghdab

namespace Go.Proofs.Ytlockdhhidghdab
open Go.RowKit

/-- what is asked of a norm, told by the numbers alone -/
def fineB (a b : Int) : Bool :=
  decide (-16 ≤ nA a b ∧ nA a b ≤ 16 ∧ -16 ≤ nB a b ∧ nB a b ≤ 16 ∧ nA (nA a b) (nB a b) = nA a b ∧ nB (nA a b) (nB a b) = nB a b ∧
    (¬ (a = 0 ∧ b = 0) → Int.gcd (nA a b) (nB a b) = 1 ∧ (0 < nB a b ∨ (nB a b = 0 ∧ nA a b = 1)) ∧ a = dsg a b * nA a b ∧ b = dsg a b * nB a b ∧ dsg a b ≠ 0))
theorem fine_all : (List.range 33).all (fun i => (List.range 33).all fun j => fineB ((i : Int) - 16) ((j : Int) - 16)) = true := by decide +kernel
theorem fine {a b : Int} (ha : -16 ≤ a) (ha' : a ≤ 16) (hb : -16 ≤ b) (hb' : b ≤ 16) :
    -16 ≤ nA a b ∧ nA a b ≤ 16 ∧ -16 ≤ nB a b ∧ nB a b ≤ 16 ∧ nA (nA a b) (nB a b) = nA a b ∧ nB (nA a b) (nB a b) = nB a b ∧
    (¬ (a = 0 ∧ b = 0) → Int.gcd (nA a b) (nB a b) = 1 ∧ (0 < nB a b ∨ (nB a b = 0 ∧ nA a b = 1)) ∧ a = dsg a b * nA a b ∧ b = dsg a b * nB a b ∧ dsg a b ≠ 0) := by
  have h1 := List.all_eq_true.1 fine_all (a + 16).toNat (List.mem_range.2 (by omega))
  have h2 := List.all_eq_true.1 h1 (b + 16).toNat (List.mem_range.2 (by omega))
  have e1 : (((a + 16).toNat : Nat) : Int) - 16 = a := by omega
  have e2 : (((b + 16).toNat : Nat) : Int) - 16 = b := by omega
  rw [e1, e2] at h2
  exact of_decide_eq_true h2

def detI (a b c d : Int) : Int := a * d - c * b
def oneB (a b c d : Int) : Bool := decide (detI a b c d = 0) && (noB a b == noB c d)
theorem norm_none : nA 0 0 = 0 ∧ nB 0 0 = 0 := ⟨rfl, rfl⟩

theorem dvd_cop {k m n : Int} (h : Int.gcd k n = 1) (hd : k ∣ m * n) : k ∣ m :=
  Int.natAbs_dvd_natAbs.1 (Nat.Coprime.dvd_of_dvd_mul_right (k := k.natAbs) (n := n.natAbs) h (by rw [← Int.natAbs_mul]; exact Int.natAbs_dvd_natAbs.2 hd))
theorem cross {p q r s : Int} (h1 : Int.gcd p q = 1) (h2 : Int.gcd r s = 1) (s1 : 0 < q ∨ (q = 0 ∧ p = 1)) (s2 : 0 < s ∨ (s = 0 ∧ r = 1)) (e : p * s = r * q) : p = r ∧ q = s := by
  have d1 : q ∣ s := by
    have : q ∣ s * p := by rw [Int.mul_comm, e]; exact Int.dvd_mul_left _ _
    exact dvd_cop (by rw [Int.gcd_comm]; exact h1) this
  have d2 : s ∣ q := by
    have : s ∣ q * r := by rw [Int.mul_comm, ← e]; exact Int.dvd_mul_left _ _
    exact dvd_cop (by rw [Int.gcd_comm]; exact h2) this
  have hq : q = s := Int.dvd_antisymm (by omega) (by omega) d1 d2
  subst hq
  refine ⟨?_, rfl⟩
  rcases s1 with s1 | ⟨_, s1⟩
  · exact Int.eq_of_mul_eq_mul_right (by omega) e
  · rcases s2 with s2 | ⟨_, s2⟩
    · omega
    · omega

theorem one_norm {a b c d : Int} (ha : -16 ≤ a) (ha' : a ≤ 16) (hb : -16 ≤ b) (hb' : b ≤ 16) (hc : -16 ≤ c) (hc' : c ≤ 16) (hd : -16 ≤ d) (hd' : d ≤ 16) :
    (oneB a b c d = true ↔ nA c d = nA a b ∧ nB c d = nB a b) := by
  have f := (fine ha ha' hb hb').2.2.2.2.2.2
  have g := (fine hc hc' hd hd').2.2.2.2.2.2
  unfold oneB detI noB
  by_cases z1 : a = 0 ∧ b = 0
  · by_cases z2 : c = 0 ∧ d = 0
    · obtain ⟨rfl, rfl⟩ := z1
      obtain ⟨rfl, rfl⟩ := z2
      decide
    · obtain ⟨g1, g2, _⟩ := g z2
      rw [decide_eq_true z1, decide_eq_false z2]
      obtain ⟨rfl, rfl⟩ := z1
      simp only [norm_none.1, norm_none.2]
      simp
      intro e1 e2
      rw [e1, e2] at g2; omega
  · obtain ⟨f1, f2, f3, f4, f5⟩ := f z1
    by_cases z2 : c = 0 ∧ d = 0
    · rw [decide_eq_false z1, decide_eq_true z2]
      obtain ⟨rfl, rfl⟩ := z2
      simp only [norm_none.1, norm_none.2]
      simp
      intro e1 e2
      rw [← e1, ← e2] at f2; omega
    · obtain ⟨g1, g2, g3, g4, g5⟩ := g z2
      rw [decide_eq_false z1, decide_eq_false z2]
      generalize nA a b = p at *
      generalize nB a b = q at *
      generalize nA c d = r at *
      generalize nB c d = s at *
      generalize dsg a b = x at *
      generalize dsg c d = y at *
      have key : a * d - c * b = (x * y) * (p * s - r * q) := by rw [f3, f4, g3, g4]; grind
      rw [key]
      simp only [beq_self_eq_true, Bool.and_true, decide_eq_true_eq, Int.mul_eq_zero]
      constructor
      · intro h
        have e : p * s = r * q := by omega
        have := cross f1 g1 f2 g2 e
        exact ⟨this.1.symm, this.2.symm⟩
      · rintro ⟨rfl, rfl⟩
        right; omega

/-- the document's way -/
def oneR (a b c d : Int) : Bool := if noB a b || noB c d then noB a b && noB c d else decide (detI a b c d = 0)
theorem oneR_eq (a b c d : Int) : oneR a b c d = oneB a b c d := by
  unfold oneR oneB
  cases h1 : noB a b <;> cases h2 : noB c d
  · simp
  · simp
  · simp
  · obtain ⟨rfl, rfl⟩ := of_decide_eq_true h1
    obtain ⟨rfl, rfl⟩ := of_decide_eq_true h2
    simp [detI]
theorem det_small {a b c d : Int} (ha : -16 ≤ a) (ha' : a ≤ 16) (hb : -16 ≤ b) (hb' : b ≤ 16) (hc : -16 ≤ c) (hc' : c ≤ 16) (hd : -16 ≤ d) (hd' : d ≤ 16) :
    -512 ≤ detI a b c d ∧ detI a b c d ≤ 512 ∧ -256 ≤ a * d ∧ a * d ≤ 256 ∧ -256 ≤ c * b ∧ c * b ≤ 256 := by
  have h1 : (a * d).natAbs ≤ 16 * 16 := by rw [Int.natAbs_mul]; exact Nat.mul_le_mul (by omega) (by omega)
  have h2 : (c * b).natAbs ≤ 16 * 16 := by rw [Int.natAbs_mul]; exact Nat.mul_le_mul (by omega) (by omega)
  unfold detI
  omega
end Go.Proofs.Ytlockdhhidghdab

namespace Go.Proofs.Ytlockdhhidghdab
open Go.RowKit

theorem nboxp (t : TypeId) (w : World) (x y x' y' : Value) : Box2 ((w.alloc (.cells #[x, y] t)).alloc (.cells #[x', y'] t)) w.heap.size t x y ∧ Box2 ((w.alloc (.cells #[x, y] t)).alloc (.cells #[x', y'] t)) (w.heap.size + 1) t x' y' ∧ Below w.heap.size w ((w.alloc (.cells #[x, y] t)).alloc (.cells #[x', y'] t)) := by
  refine ⟨(Box2.new w _ _ _).step (below_alloc _ _), ?_, (below_alloc w _).trans ((below_alloc _ _).mono (by simp))⟩
  have := Box2.new (w.alloc (.cells #[x, y] t)) t x' y'
  rwa [World.size_alloc] at this

set_option maxRecDepth 100000 in
set_option maxHeartbeats 1000000 in
theorem norm_out (a b : Int) (w : World) (h : inB a b = false) :
    Calls Try.prog 68 #[.agg #[.int .i64 a, .int .i64 b]] w fun e w' => e = .returned (.tuple #[.agg #[.int .i64 0, .int .i64 0], .int .i64 2]) ∧ Below w.heap.size w w' := by
  have HX := hide (nboxp 72 w (.int .i64 a) (.int .i64 b) (.int .i64 0) (.int .i64 0))
  go_enter Try.func68, Try.ntmps68
  go_wp2_with fail
  refine (in_any a b _).mono ?_
  rintro e w1 ⟨rfl, hb⟩
  have X2 := hide (HX.out.2.1.step hb)
  have HB := hide (HX.out.2.2.trans (hb.mono HX.out.2.2.size))
  have d0 := X2.out.cell0
  have d1 := X2.out.cell1
  have f0 := X2.out.free 0
  have f1 := X2.out.free 1
  rw [h]
  clear hb HX
  go_wp2
  refine ret_pte rfl (w.heap.size + 1) _ _ rfl ((X2.out.set0 _).set1 _) rfl ?_
  exact ⟨rfl, (HB.out.setCell (p := ⟨w.heap.size + 1, 0, none⟩) (by simp) _).setCell (p := ⟨w.heap.size + 1, 1, none⟩) (by simp) _⟩

set_option maxRecDepth 100000 in
set_option maxHeartbeats 1000000 in
theorem norm_in (a b : Int) (w : World) (h : inB a b = true) :
    Calls Try.prog 68 #[.agg #[.int .i64 a, .int .i64 b]] w fun e w' => e = .returned (.tuple #[.agg #[.int .i64 (nA a b), .int .i64 (nB a b)], .int .i64 0]) ∧ Below w.heap.size w w' := by
  have HX := hide (nboxp 72 w (.int .i64 a) (.int .i64 b) (.int .i64 0) (.int .i64 0))
  have HI := hide (in_yes h)
  go_enter Try.func68, Try.ntmps68
  go_wp2_with fail
  refine (in_any a b _).mono ?_
  rintro e w1 ⟨rfl, hb⟩
  have X1 := hide (HX.out.1.step hb)
  have X2 := hide (HX.out.2.1.step hb)
  have HB := hide (HX.out.2.2.trans (hb.mono HX.out.2.2.size))
  have c0 := X1.out.cell0
  have c1 := X1.out.cell1
  rw [h]
  clear hb HX
  go_wp2_with fail
  refine (norm0_any a b _ HI.out.1.1 HI.out.1.2 HI.out.2.1 HI.out.2.2).mono ?_
  rintro e w2 ⟨rfl, hb⟩
  replace X2 := hide (X2.out.step hb)
  replace HB := hide (HB.out.trans (hb.mono HB.out.size))
  have d0 := X2.out.cell0
  have d1 := X2.out.cell1
  have f0 := X2.out.free 0
  have f1 := X2.out.free 1
  clear hb X1 c0 c1
  go_wp2
  refine ret_pte rfl (w.heap.size + 1) _ _ rfl ((X2.out.set0 _).set1 _) rfl ?_
  exact ⟨rfl, (HB.out.setCell (p := ⟨w.heap.size + 1, 0, none⟩) (by simp) _).setCell (p := ⟨w.heap.size + 1, 1, none⟩) (by simp) _⟩

set_option maxRecDepth 100000 in
set_option maxHeartbeats 1000000 in
theorem live_any (w : World) : Calls Try.prog 30 #[] w fun e w' => e = .returned (.bool true) ∧ Below w.heap.size w w' := by
  go_enter Try.func30, Try.ntmps30
  go_wp2_with fail
  refine (norm_in 4 (-6) _ (by decide)).mono ?_
  rintro e w1 ⟨rfl, hb⟩
  rw [show nA 4 (-6) = -2 from by decide +kernel, show nB 4 (-6) = 3 from by decide +kernel]
  have HB := hide hb
  clear hb
  go_wp2
  go_ret
  exact ⟨rfl, by first | exact HB.out.trans ((below_alloc _ _).mono HB.out.size) | (refine ((HB.out.trans ((below_alloc _ _).mono HB.out.size)).setCell (p := ⟨_, 0, none⟩) ?_ _).setCell (p := ⟨_, 1, none⟩) ?_ _ <;> exact HB.out.size)⟩
end Go.Proofs.Ytlockdhhidghdab
