/- integer.Of, and integer.Int's Cmp. -/
import Derived.Test.YtapodkjmhenceaaIOps
namespace Go.Proofs.Ytapodkjmhenceaa
open Go.RowKit

theorem cmpZ_lt {x y : Int} (h : x < y) : cmpZ x y = -1 := if_pos h
theorem cmpZ_eq (x : Int) : cmpZ x x = 0 := by unfold cmpZ; rw [if_neg (by omega), if_pos rfl]
theorem cmpZ_gt {x y : Int} (h : y < x) : cmpZ x y = 1 := by unfold cmpZ; rw [if_neg (by omega), if_neg (by omega)]
theorem cmpI_lt {m n : Nat} (h : m < n) : cmpI m n = -1 := if_pos h
theorem cmpI_eq (m : Nat) : cmpI m m = 0 := by unfold cmpI; rw [if_neg (by omega), if_neg (by omega)]
theorem cmpI_gt {m n : Nat} (h : n < m) : cmpI m n = 1 := by unfold cmpI; rw [if_neg (by omega), if_pos h]
theorem cmpZ_nn (m n : Nat) : cmpZ (sg false m) (sg false n) = cmpI m n := by
  rw [sg_false, sg_false]
  rcases Nat.lt_trichotomy m n with h | h | h
  · rw [cmpI_lt h, cmpZ_lt (by omega)]
  · subst h; rw [cmpI_eq, cmpZ_eq]
  · rw [cmpI_gt h, cmpZ_gt (by omega)]
theorem cmpZ_tt (m n : Nat) : cmpZ (sg true m) (sg true n) = cmpI n m := by
  rw [sg_true, sg_true]
  rcases Nat.lt_trichotomy m n with h | h | h
  · rw [cmpI_gt h, cmpZ_gt (by omega)]
  · subst h; rw [cmpI_eq, cmpZ_eq]
  · rw [cmpI_lt h, cmpZ_lt (by omega)]

theorem val_two (n : Nat) : val [n % BB, n / BB] = n := by simp only [val]; rw [Nat.mul_zero, Nat.add_zero]; exact Nat.mod_add_div n BB
theorem of_low (z : Int) (hlo : -9223372036854775808 ≤ z) (h : z < 0) : IntKind.u64.wrap (-IntKind.u64.wrap z) % 4294967296 = ((z.natAbs % BB : Nat) : Int) := by
  rw [IntKind.wrap_u64, IntKind.wrap_u64]; unfold BB; omega
theorem of_high (z : Int) (hlo : -9223372036854775808 ≤ z) (h : z < 0) : IntKind.u64.wrap (-IntKind.u64.wrap z) / 4294967296 % 4294967296 = ((z.natAbs / BB : Nat) : Int) := by
  rw [IntKind.wrap_u64, IntKind.wrap_u64]; unfold BB; omega

theorem of_low' (z : Int) (h : 0 ≤ z) : z % 4294967296 = ((z.natAbs % BB : Nat) : Int) := by unfold BB; omega
theorem of_high' (z : Int) (h : 0 ≤ z) : z / 4294967296 = ((z.natAbs / BB : Nat) : Int) := by unfold BB; omega
theorem nums_lit2_past {w : World} {o : Obj} {e : TypeId} {x y : Int} {m n : Nat} (hx : x = m) (hy : y = n) (hm : m < BB) (hn : n < BB) : Nums ((w.alloc o).alloc (.cells #[.int .u32 x, .int .u32 y] e)) (.slice (some ⟨w.heap.size + 1, 0, none⟩) 2 2) [m, n] := by
  have := nums_lit2 (w.alloc o) e x y m n hx hy hm hn
  rwa [World.size_alloc] at this
theorem high_lt (z : Int) (hlo : -9223372036854775808 ≤ z) (hhi : z ≤ 9223372036854775807) : z.natAbs / BB < BB := by unfold BB; omega

set_option maxRecDepth 100000 in
set_option maxHeartbeats 400000 in
theorem iof_any (z : Int) (w : World) (hlo : -9223372036854775808 ≤ z) (hhi : z ≤ 9223372036854775807) :
    Calls Try.prog 24 #[.int .i64 z] w fun e w' => ∃ v, e = .returned v ∧ IntAt w' v z ∧ Below w.heap.size w w' := by
  have HL := hide hlo
  have HH := hide hhi
  have HE := hide (boxes1 w (.bool false) (.slice none 0 0))
  by_cases h : z < 0
  · have HZ := hide h
    clear hlo hhi
    go_enter Try.func24, Try.ntmps24
    go_wp2_with fail
    refine (make_any true _ [z.natAbs % BB, z.natAbs / BB] _ (nums_lit2_past (of_low z HL.out HZ.out) (of_high z HL.out HZ.out) (Nat.mod_lt _ BB_pos) (high_lt z HL.out HH.out)) (by simp)).mono ?_
    rintro e w2 ⟨v, rfl, ⟨b', n', a', c', rfl, hn', he, h0⟩, hb2⟩
    have HX := hide ((HE.out.1.step (below_alloc _ _)).step hb2)
    have HB := hide (HE.out.2.trans (((below_alloc _ _).trans (hb2.mono (by simp))).mono (by simp)))
    have hc0 := HX.out.cell0
    have hc1 := HX.out.cell1
    have hf0 := HX.out.free 0
    have hf1 := HX.out.free 1
    clear hb2
    go_wp2
    refine ret_int rfl w.heap.size _ _ _ _ rfl ((HX.out.set0 _).set1 _) rfl ?_
    exact handed HX.out (by simp) (by simp) (Nat.le_refl _) HB.out hn' (by rw [← he, val_two, sg_true]; have := HZ.out; omega) h0
  · have hp : 0 ≤ z := by omega
    have HZ := hide hp
    clear hp
    go_enter Try.func24, Try.ntmps24
    go_wp2_with fail
    refine (make_any false _ [z.natAbs % BB, z.natAbs / BB] _ (nums_lit2_past (of_low' z HZ.out) (of_high' z HZ.out) (Nat.mod_lt _ BB_pos) (high_lt z HL.out HH.out)) (by simp)).mono ?_
    rintro e w2 ⟨v, rfl, ⟨b', n', a', c', rfl, hn', he, h0⟩, hb2⟩
    have HX := hide ((HE.out.1.step (below_alloc _ _)).step hb2)
    have HB := hide (HE.out.2.trans (((below_alloc _ _).trans (hb2.mono (by simp))).mono (by simp)))
    have hc0 := HX.out.cell0
    have hc1 := HX.out.cell1
    have hf0 := HX.out.free 0
    have hf1 := HX.out.free 1
    clear hb2
    go_wp2
    refine ret_int rfl w.heap.size _ _ _ _ rfl ((HX.out.set0 _).set1 _) rfl ?_
    exact handed HX.out (by simp) (by simp) (Nat.le_refl _) HB.out hn' (by rw [← he, val_two, sg_false]; have := HZ.out; omega) h0
end Go.Proofs.Ytapodkjmhenceaa
