/- Points: norms (the program's norm, Norm; the document's Norm). -/
import Derived.Test.YtapodkjmhenceaaPtGcd
import Derived.Test.YtapodkjmhenceaaCalm
namespace Go.Proofs.Ytapodkjmhenceaa
open Go.RowKit

theorem Try.infoPt : (Try.prog.info? 61).map (·.size) = some 2 := by kernel_rfl

/-- a point in memory -/
def PtBox (w : World) (B : Nat) (a b : Int) : Prop := Box2 w B 61 (.int .i64 a) (.int .i64 b)

/-- a struct of two cells is handed back -/
theorem ret_pt {fn : Func} {R : Ending → World → Prop} {a : Act} {w : World} {p : Tmp} (h : fn.results = #[.cell p 61]) (g : Nat) (x y : Value)
    (hp : a.tmps.getD p undef = .pointer (some ⟨g, 0, none⟩)) (hg : Box2 w g 61 x y) (hd : a.defers = []) (hR : R (.returned (.agg #[x, y])) w) : bodyPost Try.prog fn R .ret a w := by
  refine bodyPost_ret ?_ hd hR
  have hp' : a.tmps[p]?.getD undef = .pointer (some ⟨g, 0, none⟩) := by simpa using hp
  simp [results, h, hp', asAddr, run_loadVar_row w g 61 61 #[x, y] (0, 0) _ hg Try.underlying61 rfl Try.infoPt]
/-- a struct of two cells and a word are handed back -/
theorem ret_pte {fn : Func} {R : Ending → World → Prop} {a : Act} {w : World} {p u : Tmp} (h : fn.results = #[.cell p 61, .tmp u]) (g : Nat) (x y : Value)
    (hp : a.tmps.getD p undef = .pointer (some ⟨g, 0, none⟩)) (hg : Box2 w g 61 x y) (hd : a.defers = []) (hR : R (.returned (.tuple #[.agg #[x, y], a.tmps.getD u undef])) w) : bodyPost Try.prog fn R .ret a w := by
  refine bodyPost_ret ?_ hd hR
  have hp' : a.tmps[p]?.getD undef = .pointer (some ⟨g, 0, none⟩) := by simpa using hp
  simp [results, h, hp', asAddr, run_loadVar_row w g 61 61 #[x, y] (0, 0) _ hg Try.underlying61 rfl Try.infoPt]

/-- the divisor with the sign that makes a norm -/
def dsg (a b : Int) : Int := if b < 0 ∨ (b = 0 ∧ a < 0) then -gI a b else gI a b
def nA (a b : Int) : Int := if gI a b = 0 then a else a.tdiv (dsg a b)
def nB (a b : Int) : Int := if gI a b = 0 then b else b.tdiv (dsg a b)

theorem gI_nonneg (a b : Int) : 0 ≤ gI a b := Int.natCast_nonneg _
theorem gI_le (a b : Int) (M : Int) (ha : -M ≤ a) (ha' : a ≤ M) (hb : -M ≤ b) (hb' : b ≤ M) : gI a b ≤ M := by
  unfold gI
  by_cases e : a = 0
  · by_cases e' : b = 0
    · subst e; subst e'; simp; omega
    · have := Int.gcd_le_natAbs_right a e'; omega
  · have := Int.gcd_le_natAbs_left b e; omega

theorem tdiv_small (a g : Int) (h : -16 ≤ a) (h' : a ≤ 16) : -16 ≤ a.tdiv g ∧ a.tdiv g ≤ 16 := by
  have h1 : (a.tdiv g).natAbs ≤ a.natAbs := by rw [Int.natAbs_tdiv]; exact Nat.div_le_self _ _
  omega
theorem wrap_neg (a g : Int) (h : -16 ≤ a) (h' : a ≤ 16) : wrap64 (-a.tdiv g) = a.tdiv (-g) := by
  have := tdiv_small a g h h'
  rw [Int.tdiv_neg]; unfold wrap64; omega
theorem wrap_pos (a g : Int) (h : -16 ≤ a) (h' : a ≤ 16) : wrap64 (a.tdiv g) = a.tdiv g := by
  have := tdiv_small a g h h'
  unfold wrap64; omega
theorem agg_eq {a b p q : Int} (h1 : a = p) (h2 : b = q) : Ending.returned (.agg #[.int .i64 a, .int .i64 b]) = .returned (.agg #[.int .i64 p, .int .i64 q]) := by rw [h1, h2]

set_option maxRecDepth 100000 in
set_option maxHeartbeats 1000000 in
theorem norm0_any (a b : Int) (w : World) (ha : -16 ≤ a) (ha' : a ≤ 16) (hb : -16 ≤ b) (hb' : b ≤ 16) :
    Calls Try.prog 116 #[.agg #[.int .i64 a, .int .i64 b]] w fun e w' => e = .returned (.agg #[.int .i64 (nA a b), .int .i64 (nB a b)]) ∧ Below w.heap.size w w' := by
  have X1 := hide ((Box2.new w 61 (.int .i64 a) (.int .i64 b)).step (below_alloc _ (.cells #[.int .i64 0, .int .i64 0] 61)))
  have X2 := Box2.new (w.alloc (.cells #[.int .i64 a, .int .i64 b] 61)) 61 (.int .i64 0) (.int .i64 0)
  rw [World.size_alloc] at X2
  replace X2 := hide X2
  have HB := hide ((below_alloc w (.cells #[.int .i64 a, .int .i64 b] 61)).trans ((below_alloc _ (.cells #[.int .i64 0, .int .i64 0] 61)).mono (by simp)))
  obtain ⟨p, hp⟩ : ∃ p, p = nA a b := ⟨_, rfl⟩
  obtain ⟨q, hq⟩ : ∃ q, q = nB a b := ⟨_, rfl⟩
  rw [← hp, ← hq]
  have HP := hide hp
  have HQ := hide hq
  clear hp hq
  go_enter Try.func116, Try.ntmps116
  go_wp2_with fail
  generalize (w.alloc (.cells #[.int .i64 a, .int .i64 b] 61)).alloc (.cells #[.int .i64 0, .int .i64 0] 61) = w0 at *
  refine (divisor_any a b _ (by omega) (by omega) (by omega) (by omega) (by omega)).mono ?_
  rintro e w1 ⟨rfl, hb1⟩
  replace X1 := hide (X1.out.step hb1)
  replace X2 := hide (X2.out.step hb1)
  replace HB := hide (HB.out.trans (hb1.mono HB.out.size))
  clear hb1
  have hg0 := gI_nonneg a b
  have hg1 := gI_le a b 16 ha ha' hb hb'
  have c0 := X1.out.cell0
  have c1 := X1.out.cell1
  have d0 := X2.out.cell0
  have d1 := X2.out.cell1
  have f0 := X2.out.free 0
  have f1 := X2.out.free 1
  unfold nA at HP
  unfold nB at HQ
  by_cases hz : gI a b = 0
  · rw [if_pos hz] at HP HQ
    rw [hz]
    obtain rfl := HP.out
    obtain rfl := HQ.out
    clear hg0 hg1 hz
    go_wp2
    refine ret_pt rfl (w.heap.size + 1) _ _ rfl ((X2.out.set0 _).set1 _) rfl ?_
    exact ⟨rfl, (HB.out.setCell (p := ⟨w.heap.size + 1, 0, none⟩) (by simp) _).setCell (p := ⟨w.heap.size + 1, 1, none⟩) (by simp) _⟩
  · rw [if_neg hz] at HP HQ
    unfold dsg at HP HQ
    have wa := wrap_neg a (gI a b) ha ha'
    have wb := wrap_neg b (gI a b) hb hb'
    have wa' := wrap_pos a (gI a b) ha ha'
    have wb' := wrap_pos b (gI a b) hb hb'
    generalize gI a b = g at *
    by_cases h1 : b < 0 ∨ (b = 0 ∧ a < 0)
    · rw [if_pos h1] at HP HQ
      rw [← HP.out] at wa
      rw [← HQ.out] at wb
      have WA := hide wa
      have WB := hide wb
      clear wa wb wa' wb'
      rcases h1 with h1 | ⟨h1, h2⟩
      · go_wp2
        go_region
        go_wp2
        refine ret_pt rfl (w.heap.size + 1) _ _ rfl ((X2.out.set0 _).set1 _) rfl ?_
        exact ⟨agg_eq (by (first | exact WA.out | (rw [HP.out]; exact (Int.tdiv_eq_ediv_of_nonneg (by omega)).symm) | (rw [HP.out, Int.zero_tdiv]) | exact HP.out.symm)) (by (first | exact WB.out | (rw [HQ.out]; exact (Int.tdiv_eq_ediv_of_nonneg (by omega)).symm) | (rw [HQ.out, Int.zero_tdiv]) | exact HQ.out.symm)), ((HB.out.setCell (p := ⟨w.heap.size + 1, 0, none⟩) (by simp) _).setCell (p := ⟨w.heap.size + 1, 1, none⟩) (by simp) _).drew⟩
      · subst h1
        go_wp2
        go_region
        go_wp2
        refine ret_pt rfl (w.heap.size + 1) _ _ rfl ((X2.out.set0 _).set1 _) rfl ?_
        exact ⟨agg_eq (by (first | exact WA.out | (rw [HP.out]; exact (Int.tdiv_eq_ediv_of_nonneg (by omega)).symm) | (rw [HP.out, Int.zero_tdiv]) | exact HP.out.symm)) (by (first | exact WB.out | (rw [HQ.out]; exact (Int.tdiv_eq_ediv_of_nonneg (by omega)).symm) | (rw [HQ.out, Int.zero_tdiv]) | exact HQ.out.symm)), ((HB.out.setCell (p := ⟨w.heap.size + 1, 0, none⟩) (by simp) _).setCell (p := ⟨w.heap.size + 1, 1, none⟩) (by simp) _).drew⟩
    · rw [if_neg h1] at HP HQ
      rw [← HP.out] at wa'
      rw [← HQ.out] at wb'
      have WA := hide wa'
      have WB := hide wb'
      clear wa wb wa' wb'
      have h2 : ¬ b < 0 := fun h => h1 (.inl h)
      by_cases h3 : b = 0
      · have h4 : ¬ a < 0 := fun h => h1 (.inr ⟨h3, h⟩)
        subst h3
        clear h1 h2
        go_wp2
        go_region
        go_wp2
        refine ret_pt rfl (w.heap.size + 1) _ _ rfl ((X2.out.set0 _).set1 _) rfl ?_
        exact ⟨agg_eq (by (first | exact WA.out | (rw [HP.out]; exact (Int.tdiv_eq_ediv_of_nonneg (by omega)).symm) | (rw [HP.out, Int.zero_tdiv]) | exact HP.out.symm)) (by (first | exact WB.out | (rw [HQ.out]; exact (Int.tdiv_eq_ediv_of_nonneg (by omega)).symm) | (rw [HQ.out, Int.zero_tdiv]) | exact HQ.out.symm)), ((HB.out.setCell (p := ⟨w.heap.size + 1, 0, none⟩) (by simp) _).setCell (p := ⟨w.heap.size + 1, 1, none⟩) (by simp) _).drew⟩
      · clear h1
        go_wp2
        go_region
        go_wp2
        refine ret_pt rfl (w.heap.size + 1) _ _ rfl ((X2.out.set0 _).set1 _) rfl ?_
        exact ⟨agg_eq (by (first | exact WA.out | (rw [HP.out]; exact (Int.tdiv_eq_ediv_of_nonneg (by omega)).symm) | (rw [HP.out, Int.zero_tdiv]) | exact HP.out.symm)) (by (first | exact WB.out | (rw [HQ.out]; exact (Int.tdiv_eq_ediv_of_nonneg (by omega)).symm) | (rw [HQ.out, Int.zero_tdiv]) | exact HQ.out.symm)), ((HB.out.setCell (p := ⟨w.heap.size + 1, 0, none⟩) (by simp) _).setCell (p := ⟨w.heap.size + 1, 1, none⟩) (by simp) _).drew⟩

set_option maxRecDepth 100000 in
set_option maxHeartbeats 1000000 in
theorem rnorm_any (a b : Int) (w : World) (ha : -16 ≤ a) (ha' : a ≤ 16) (hb : -16 ≤ b) (hb' : b ≤ 16) :
    Calls Try.prog 89 #[.agg #[.int .i64 a, .int .i64 b]] w fun e w' => e = .returned (.agg #[.int .i64 (nA a b), .int .i64 (nB a b)]) ∧ Below w.heap.size w w' := by
  have X1 := hide ((Box2.new w 61 (.int .i64 a) (.int .i64 b)).step (below_alloc _ (.cells #[.int .i64 0, .int .i64 0] 61)))
  have X2 := Box2.new (w.alloc (.cells #[.int .i64 a, .int .i64 b] 61)) 61 (.int .i64 0) (.int .i64 0)
  rw [World.size_alloc] at X2
  replace X2 := hide X2
  have HB := hide ((below_alloc w (.cells #[.int .i64 a, .int .i64 b] 61)).trans ((below_alloc _ (.cells #[.int .i64 0, .int .i64 0] 61)).mono (by simp)))
  obtain ⟨p, hp⟩ : ∃ p, p = nA a b := ⟨_, rfl⟩
  obtain ⟨q, hq⟩ : ∃ q, q = nB a b := ⟨_, rfl⟩
  rw [← hp, ← hq]
  have HP := hide hp
  have HQ := hide hq
  clear hp hq
  go_enter Try.func89, Try.ntmps89
  go_wp2_with fail
  generalize (w.alloc (.cells #[.int .i64 a, .int .i64 b] 61)).alloc (.cells #[.int .i64 0, .int .i64 0] 61) = w0 at *
  refine (common_any a b _ ha ha' hb hb').mono ?_
  rintro e w1 ⟨rfl, hb1⟩
  replace X1 := hide (X1.out.step hb1)
  replace X2 := hide (X2.out.step hb1)
  replace HB := hide (HB.out.trans (hb1.mono HB.out.size))
  clear hb1
  have hg0 := gI_nonneg a b
  have hg1 := gI_le a b 16 ha ha' hb hb'
  have c0 := X1.out.cell0
  have c1 := X1.out.cell1
  have d0 := X2.out.cell0
  have d1 := X2.out.cell1
  have f0 := X2.out.free 0
  have f1 := X2.out.free 1
  unfold nA at HP
  unfold nB at HQ
  by_cases hz : gI a b = 0
  · rw [if_pos hz] at HP HQ
    rw [hz]
    obtain rfl := HP.out
    obtain rfl := HQ.out
    clear hg0 hg1 hz
    go_wp2
    refine ret_pt rfl (w.heap.size + 1) _ _ rfl ((X2.out.set0 _).set1 _) rfl ?_
    exact ⟨rfl, (HB.out.setCell (p := ⟨w.heap.size + 1, 0, none⟩) (by simp) _).setCell (p := ⟨w.heap.size + 1, 1, none⟩) (by simp) _⟩
  · rw [if_neg hz] at HP HQ
    unfold dsg at HP HQ
    have wa := wrap_neg a (gI a b) ha ha'
    have wb := wrap_neg b (gI a b) hb hb'
    have wa' := wrap_pos a (gI a b) ha ha'
    have wb' := wrap_pos b (gI a b) hb hb'
    generalize gI a b = g at *
    by_cases h1 : b < 0 ∨ (b = 0 ∧ a < 0)
    · rw [if_pos h1] at HP HQ
      rw [← HP.out] at wa
      rw [← HQ.out] at wb
      have WA := hide wa
      have WB := hide wb
      clear wa wb wa' wb'
      rcases h1 with h1 | ⟨h1, h2⟩
      · go_wp2
        go_region
        go_wp2
        refine ret_pt rfl (w.heap.size + 1) _ _ rfl ((X2.out.set0 _).set1 _) rfl ?_
        exact ⟨agg_eq (by (first | exact WA.out | (rw [HP.out]; exact (Int.tdiv_eq_ediv_of_nonneg (by omega)).symm) | (rw [HP.out, Int.zero_tdiv]) | exact HP.out.symm)) (by (first | exact WB.out | (rw [HQ.out]; exact (Int.tdiv_eq_ediv_of_nonneg (by omega)).symm) | (rw [HQ.out, Int.zero_tdiv]) | exact HQ.out.symm)), ((HB.out.setCell (p := ⟨w.heap.size + 1, 0, none⟩) (by simp) _).setCell (p := ⟨w.heap.size + 1, 1, none⟩) (by simp) _).drew⟩
      · subst h1
        go_wp2
        go_region
        go_wp2
        refine ret_pt rfl (w.heap.size + 1) _ _ rfl ((X2.out.set0 _).set1 _) rfl ?_
        exact ⟨agg_eq (by (first | exact WA.out | (rw [HP.out]; exact (Int.tdiv_eq_ediv_of_nonneg (by omega)).symm) | (rw [HP.out, Int.zero_tdiv]) | exact HP.out.symm)) (by (first | exact WB.out | (rw [HQ.out]; exact (Int.tdiv_eq_ediv_of_nonneg (by omega)).symm) | (rw [HQ.out, Int.zero_tdiv]) | exact HQ.out.symm)), ((HB.out.setCell (p := ⟨w.heap.size + 1, 0, none⟩) (by simp) _).setCell (p := ⟨w.heap.size + 1, 1, none⟩) (by simp) _).drew⟩
    · rw [if_neg h1] at HP HQ
      rw [← HP.out] at wa'
      rw [← HQ.out] at wb'
      have WA := hide wa'
      have WB := hide wb'
      clear wa wb wa' wb'
      have h2 : ¬ b < 0 := fun h => h1 (.inl h)
      by_cases h3 : b = 0
      · have h4 : ¬ a < 0 := fun h => h1 (.inr ⟨h3, h⟩)
        subst h3
        clear h1 h2
        go_wp2
        go_region
        go_wp2
        refine ret_pt rfl (w.heap.size + 1) _ _ rfl ((X2.out.set0 _).set1 _) rfl ?_
        exact ⟨agg_eq (by (first | exact WA.out | (rw [HP.out]; exact (Int.tdiv_eq_ediv_of_nonneg (by omega)).symm) | (rw [HP.out, Int.zero_tdiv]) | exact HP.out.symm)) (by (first | exact WB.out | (rw [HQ.out]; exact (Int.tdiv_eq_ediv_of_nonneg (by omega)).symm) | (rw [HQ.out, Int.zero_tdiv]) | exact HQ.out.symm)), ((HB.out.setCell (p := ⟨w.heap.size + 1, 0, none⟩) (by simp) _).setCell (p := ⟨w.heap.size + 1, 1, none⟩) (by simp) _).drew⟩
      · clear h1
        go_wp2
        go_region
        go_wp2
        refine ret_pt rfl (w.heap.size + 1) _ _ rfl ((X2.out.set0 _).set1 _) rfl ?_
        exact ⟨agg_eq (by (first | exact WA.out | (rw [HP.out]; exact (Int.tdiv_eq_ediv_of_nonneg (by omega)).symm) | (rw [HP.out, Int.zero_tdiv]) | exact HP.out.symm)) (by (first | exact WB.out | (rw [HQ.out]; exact (Int.tdiv_eq_ediv_of_nonneg (by omega)).symm) | (rw [HQ.out, Int.zero_tdiv]) | exact HQ.out.symm)), ((HB.out.setCell (p := ⟨w.heap.size + 1, 0, none⟩) (by simp) _).setCell (p := ⟨w.heap.size + 1, 1, none⟩) (by simp) _).drew⟩
end Go.Proofs.Ytapodkjmhenceaa
