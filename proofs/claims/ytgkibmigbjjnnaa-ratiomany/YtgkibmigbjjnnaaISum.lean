/- integer.Sum, integer.Product: all of a list together. -/
import Derived.Test.YtgkibmigbjjnnaaIOps
import Derived.Laws.Bits64b
namespace Go.Proofs.Ytgkibmigbjjnnaa
open Go.RowKit

theorem cmpZ_lt {x y : Int} (h : x < y) : cmpZ x y = -1 := if_pos h
theorem cmpZ_eq (x : Int) : cmpZ x x = 0 := by unfold cmpZ; rw [if_neg (by omega), if_pos rfl]
theorem cmpZ_gt {x y : Int} (h : y < x) : cmpZ x y = 1 := by unfold cmpZ; rw [if_neg (by omega), if_neg (by omega)]
theorem cmpI_lt {m n : Nat} (h : m < n) : cmpI m n = -1 := if_pos h
theorem cmpI_eq (m : Nat) : cmpI m m = 0 := by unfold cmpI; rw [if_neg (by omega), if_neg (by omega)]
theorem cmpI_gt {m n : Nat} (h : n < m) : cmpI m n = 1 := by unfold cmpI; rw [if_neg (by omega), if_pos h]
theorem cmpZ_nn (m n : Nat) : cmpZ (sg false m) (sg false n) = cmpI m n := by
  rw [sg_false, sg_false]
  rcases Nat.lt_trichotomy m n with h | h | h
  · rw [cmpI_lt h, cmpZ_lt (by omega)]
  · subst h; rw [cmpI_eq, cmpZ_eq]
  · rw [cmpI_gt h, cmpZ_gt (by omega)]
theorem cmpZ_tt (m n : Nat) : cmpZ (sg true m) (sg true n) = cmpI n m := by
  rw [sg_true, sg_true]
  rcases Nat.lt_trichotomy m n with h | h | h
  · rw [cmpI_gt h, cmpZ_gt (by omega)]
  · subst h; rw [cmpI_eq, cmpZ_eq]
  · rw [cmpI_lt h, cmpZ_lt (by omega)]

set_option maxRecDepth 100000 in
set_option maxHeartbeats 400000 in
theorem icmp_any (v1 v2 : Value) (x y : Int) (w : World) (h1 : IntAt w v1 x) (h2 : IntAt w v2 y) :
    Calls Try.prog 37 #[v1, v2] w fun e w' => e = .returned (.int .i64 (cmpZ x y)) ∧ Below w.heap.size w w' := by
  obtain ⟨b1, n1, a1, c1, rfl, hn1, rfl, h01⟩ := h1
  obtain ⟨b2, n2, a2, c2, rfl, hn2, rfl, h02⟩ := h2
  have HE := hide (boxes2 w (.bool b1) (.slice a1 (lim n1).length c1) (.bool b2) (.slice a2 (lim n2).length c2))
  have HN1 := hide (hn1.below HE.out.2.2)
  have HN2 := hide (hn2.below HE.out.2.2)
  have HZ1 := hide h01
  have HZ2 := hide h02
  clear hn1 h01 hn2 h02
  cases b1 with
  | true =>
    have hp : 0 < n1 := by rcases Nat.eq_zero_or_pos n1 with h | h; exact absurd (HZ1.out h) (by decide); exact h
    cases b2 with
    | true =>
      rw [show cmpZ (sg true n1) (sg true n2) = cmpI (val (lim n2)) (val (lim n1)) from by rw [val_lim, val_lim, cmpZ_tt]]
      clear hp
      go_enter Try.func37, Try.ntmps37
      go_wp2_with fail
      refine (cmp_any _ _ (lim n2) (lim n1) _ HN2.out HN1.out).mono ?_
      rintro e w1 ⟨rfl, hb⟩
      go_wp2
      go_ret
      exact ⟨rfl, HE.out.2.2.trans (hb.mono HE.out.2.2.size)⟩
    | false =>
      rw [show cmpZ (sg true n1) (sg false n2) = -1 from cmpZ_lt (by rw [sg_true, sg_false]; omega)]
      clear hp
      go_enter Try.func37, Try.ntmps37
      go_wp2
      go_ret
      exact ⟨rfl, HE.out.2.2⟩
  | false =>
    cases b2 with
    | true =>
      have hp : 0 < n2 := by rcases Nat.eq_zero_or_pos n2 with h | h; exact absurd (HZ2.out h) (by decide); exact h
      rw [show cmpZ (sg false n1) (sg true n2) = 1 from cmpZ_gt (by rw [sg_true, sg_false]; omega)]
      clear hp
      go_enter Try.func37, Try.ntmps37
      go_wp2
      go_ret
      exact ⟨rfl, HE.out.2.2⟩
    | false =>
      rw [show cmpZ (sg false n1) (sg false n2) = cmpI (val (lim n1)) (val (lim n2)) from by rw [val_lim, val_lim, cmpZ_nn]]
      go_enter Try.func37, Try.ntmps37
      go_wp2_with fail
      refine (cmp_any _ _ (lim n1) (lim n2) _ HN1.out HN2.out).mono ?_
      rintro e w1 ⟨rfl, hb⟩
      go_wp2
      go_ret
      exact ⟨rfl, HE.out.2.2.trans (hb.mono HE.out.2.2.size)⟩

theorem val_two (n : Nat) : val [n % BB, n / BB] = n := by simp only [val]; rw [Nat.mul_zero, Nat.add_zero]; exact Nat.mod_add_div n BB
theorem of_low (z : Int) (hlo : -9223372036854775808 ≤ z) (h : z < 0) : IntKind.u64.wrap (-IntKind.u64.wrap z) % 4294967296 = ((z.natAbs % BB : Nat) : Int) := by
  rw [IntKind.wrap_u64, IntKind.wrap_u64]; unfold BB; omega
theorem of_high (z : Int) (hlo : -9223372036854775808 ≤ z) (h : z < 0) : IntKind.u64.wrap (-IntKind.u64.wrap z) / 4294967296 % 4294967296 = ((z.natAbs / BB : Nat) : Int) := by
  rw [IntKind.wrap_u64, IntKind.wrap_u64]; unfold BB; omega

theorem of_low' (z : Int) (h : 0 ≤ z) : z % 4294967296 = ((z.natAbs % BB : Nat) : Int) := by unfold BB; omega
theorem of_high' (z : Int) (h : 0 ≤ z) : z / 4294967296 = ((z.natAbs / BB : Nat) : Int) := by unfold BB; omega
theorem nums_lit2_past {w : World} {o : Obj} {e : TypeId} {x y : Int} {m n : Nat} (hx : x = m) (hy : y = n) (hm : m < BB) (hn : n < BB) : Nums ((w.alloc o).alloc (.cells #[.int .u32 x, .int .u32 y] e)) (.slice (some ⟨w.heap.size + 1, 0, none⟩) 2 2) [m, n] := by
  have := nums_lit2 (w.alloc o) e x y m n hx hy hm hn
  rwa [World.size_alloc] at this
theorem high_lt (z : Int) (hlo : -9223372036854775808 ≤ z) (hhi : z ≤ 9223372036854775807) : z.natAbs / BB < BB := by unfold BB; omega

set_option maxRecDepth 100000 in
set_option maxHeartbeats 400000 in
theorem iof_any (z : Int) (w : World) (hlo : -9223372036854775808 ≤ z) (hhi : z ≤ 9223372036854775807) :
    Calls Try.prog 10 #[.int .i64 z] w fun e w' => ∃ v, e = .returned v ∧ IntAt w' v z ∧ Below w.heap.size w w' := by
  have HL := hide hlo
  have HH := hide hhi
  have HE := hide (boxes1 w (.bool false) (.slice none 0 0))
  by_cases h : z < 0
  · have HZ := hide h
    clear hlo hhi
    go_enter Try.func10, Try.ntmps10
    go_wp2_with fail
    refine (make_any true _ [z.natAbs % BB, z.natAbs / BB] _ (nums_lit2_past (of_low z HL.out HZ.out) (of_high z HL.out HZ.out) (Nat.mod_lt _ BB_pos) (high_lt z HL.out HH.out)) (by simp)).mono ?_
    rintro e w2 ⟨v, rfl, ⟨b', n', a', c', rfl, hn', he, h0⟩, hb2⟩
    have HX := hide ((HE.out.1.step (below_alloc _ _)).step hb2)
    have HB := hide (HE.out.2.trans (((below_alloc _ _).trans (hb2.mono (by simp))).mono (by simp)))
    have hc0 := HX.out.cell0
    have hc1 := HX.out.cell1
    have hf0 := HX.out.free 0
    have hf1 := HX.out.free 1
    clear hb2
    go_wp2
    refine ret_int rfl w.heap.size _ _ _ _ rfl ((HX.out.set0 _).set1 _) rfl ?_
    exact handed HX.out (by simp) (by simp) (Nat.le_refl _) HB.out hn' (by rw [← he, val_two, sg_true]; have := HZ.out; omega) h0
  · have hp : 0 ≤ z := by omega
    have HZ := hide hp
    clear hp
    go_enter Try.func10, Try.ntmps10
    go_wp2_with fail
    refine (make_any false _ [z.natAbs % BB, z.natAbs / BB] _ (nums_lit2_past (of_low' z HZ.out) (of_high' z HZ.out) (Nat.mod_lt _ BB_pos) (high_lt z HL.out HH.out)) (by simp)).mono ?_
    rintro e w2 ⟨v, rfl, ⟨b', n', a', c', rfl, hn', he, h0⟩, hb2⟩
    have HX := hide ((HE.out.1.step (below_alloc _ _)).step hb2)
    have HB := hide (HE.out.2.trans (((below_alloc _ _).trans (hb2.mono (by simp))).mono (by simp)))
    have hc0 := HX.out.cell0
    have hc1 := HX.out.cell1
    have hf0 := HX.out.free 0
    have hf1 := HX.out.free 1
    clear hb2
    go_wp2
    refine ret_int rfl w.heap.size _ _ _ _ rfl ((HX.out.set0 _).set1 _) rfl ?_
    exact handed HX.out (by simp) (by simp) (Nat.le_refl _) HB.out hn' (by rw [← he, val_two, sg_false]; have := HZ.out; omega) h0
end Go.Proofs.Ytgkibmigbjjnnaa

namespace Go.Proofs.Ytgkibmigbjjnnaa
open Go.RowKit

abbrev Fits (z : Int) : Prop := -9223372036854775808 ≤ z ∧ z < 9223372036854775808
def smallOf (z : Int) : Ending := .returned (.tuple #[.int .i64 (if Fits z then z else 0), .bool (decide (Fits z))])

end Go.Proofs.Ytgkibmigbjjnnaa

namespace Go.Proofs.Ytgkibmigbjjnnaa
open Go.RowKit

/-- a list of numbers in memory -/
def Ints (w : World) (v : Value) (zs : List Int) : Prop :=
  ∃ a cap, v = .slice a zs.length cap ∧ zs.length ≤ cap ∧ cap ≤ maxLen ∧ (zs ≠ [] → ∃ b off, a = some ⟨b, off, none⟩ ∧
    ∀ i, i < zs.length → ∃ s m c n, w.cell? ⟨b, off + i * 2, none⟩ = some (.bool s) ∧ w.cell? ⟨b, off + i * 2 + 1, none⟩ = some (.slice m n c) ∧ IntAt w (.agg #[.bool s, .slice m n c]) (zs.getD i 0))

theorem Ints.below {w w' : World} {v : Value} {zs : List Int} (h : Ints w v zs) (hb : Below w.heap.size w w') : Ints w' v zs := by
  obtain ⟨a, cap, rfl, h1, h2, h3⟩ := h
  refine ⟨a, cap, rfl, h1, h2, fun hx => ?_⟩
  obtain ⟨b, off, rfl, hc⟩ := h3 hx
  refine ⟨b, off, rfl, fun i hi => ?_⟩
  obtain ⟨s, m, c, n, k1, k2, k3⟩ := hc i hi
  exact ⟨s, m, c, n, (hb.cell (World.block_lt_of_cell? w _ k1)).trans k1, (hb.cell (World.block_lt_of_cell? w _ k2)).trans k2, k3.below hb⟩
theorem Ints.drew {w : World} {v : Value} {zs : List Int} (h : Ints w v zs) : Ints w.drew v zs := h
theorem Ints.nil (w : World) : Ints w (.slice none 0 0) [] := ⟨none, 0, rfl, Nat.le_refl _, Nat.zero_le _, fun h => absurd rfl h⟩

/-- the first k of a list, one behind the other -/
def accZ (f : Int → Int → Int) (z : Int) (zs : List Int) : Nat → Int
  | 0 => z
  | k + 1 => f (accZ f z zs k) (zs.getD k 0)

set_option maxRecDepth 100000 in
set_option maxHeartbeats 1000000 in
theorem iproduct_any (v : Value) (zs : List Int) (w : World) (h : Ints w v zs) (hs : ∀ k, k ≤ zs.length → (lim (accZ (· * ·) 1 zs k).natAbs).length ≤ 1000000000) (he : ∀ k, k < zs.length → (lim (zs.getD k 0).natAbs).length ≤ 1000000000) :
    Calls Try.prog 46 #[v] w fun e w' => ∃ v', e = .returned v' ∧ IntAt w' v' (accZ (· * ·) 1 zs zs.length) ∧ Below w.heap.size w w' := by
  have HI := hide h
  have HS := hide hs
  have HG := hide he
  obtain ⟨a, cap, rfl, hcap, hm, _⟩ := h
  clear hs he
  unfold maxLen at hm
  go_enter Try.func46, Try.ntmps46
  go_wp2_with fail
  refine (iof_any 1 _ (by decide) (by decide)).mono ?_
  rintro e w0 ⟨v0, rfl, ⟨b0, n0, a0, c0, rfl, hn0, he0, h00⟩, hb0⟩
  have HX0 := hide ((Box.new w _ _).step hb0)
  have HB0 := hide ((below_alloc w _).trans (hb0.mono (by simp)))
  have HI0 := hide (And.intro hn0 (And.intro he0 h00))
  have HG2 : Hid (w0.heap.size ≠ w.heap.size ∧ w.heap.size ≤ w0.heap.size) := hide (by have h1 := HB0.out.size; have h2 := HX0.out.lt; omega)
  clear hb0 hn0 he0 h00
  go_wp2
  go_loopw [9] (fun iv wr => ∃ k : Nat, k ≤ zs.length ∧ iv = .int .i64 k ∧ Below w.heap.size w wr ∧ Box wr w.heap.size (.bool false) (.slice none 0 0) ∧ ∃ s m c n, Box wr (w0.heap.size) (.bool s) (.slice m n c) ∧ IntAt wr (.agg #[.bool s, .slice m n c]) (accZ (· * ·) 1 zs k)) (fun iv _ => zs.length - (intOf iv).toNat)
  case atStart => exact ⟨0, Nat.zero_le _, rfl, HB0.out.trans ((below_alloc w0 _).mono HB0.out.size), HX0.out.step (below_alloc w0 _), b0, a0, c0, _, Box.new w0 _ _, b0, n0, a0, c0, rfl, HI0.out.1.below (below_alloc w0 _), HI0.out.2.1, HI0.out.2.2⟩
  case round =>
    obtain ⟨k, hk, rfl, hbel, hR, s, m, c, n, hS, hI⟩ := hrel
    have HBE := hide hbel
    have HR := hide hR
    have HSB := hide hS
    have HIA := hide hI
    clear hbel hR hS hI
    by_cases hlt : k < zs.length
    · obtain ⟨blk, off, rfl, hc⟩ : ∃ blk off, a = some ⟨blk, off, none⟩ ∧ ∃ s m c n, wr.cell? ⟨blk, off + k * 2, none⟩ = some (.bool s) ∧ wr.cell? ⟨blk, off + k * 2 + 1, none⟩ = some (.slice m n c) ∧ IntAt wr (.agg #[.bool s, .slice m n c]) (zs.getD k 0) := by
        obtain ⟨a', c', he, _, _, h3⟩ := HI.out.below HBE.out
        simp only [Value.slice.injEq] at he
        obtain ⟨rfl, _, rfl⟩ := he
        obtain ⟨b, off, rfl, h⟩ := h3 (by intro e; rw [e] at hlt; simp at hlt)
        exact ⟨b, off, rfl, h k hlt⟩
      obtain ⟨s', m', c', n', k1, k2, k3⟩ := hc
      have HK := hide k3
      have HSB1 := hide (HSB.out.step (below_alloc wr (.cells #[.bool s', .slice m' n' c'] 25)))
      have hs0 := HSB1.out.cell0
      have hs1 := HSB1.out.cell1
      clear k3
      go_wp2_with fail
      refine (imul_any _ _ (accZ (· * ·) 1 zs k) (zs.getD k 0) _ (HIA.out.below (below_alloc _ _)) (HK.out.below (below_alloc _ _)) (HS.out k hk) (HG.out k hlt)).mono ?_
      rintro e w1 ⟨v, rfl, ⟨b', n1, a', c1, rfl, hn', he, h0⟩, hb1⟩
      have HR1 := hide ((HR.out.step (below_alloc wr _)).step hb1)
      have HS1 := hide (HSB1.out.step hb1)
      have HB1 := hide (HBE.out.trans (((below_alloc wr _).trans (hb1.mono (by simp))).mono HBE.out.size))
      have HQ := hide (And.intro hn' (And.intro he h0))
      clear hb1 hs0 hs1 hn' he h0
      have hc0 := HS1.out.cell0
      have hc1 := HS1.out.cell1
      have hf0 := HS1.out.free 0
      have hf1 := HS1.out.free 1
      go_wp2
      go_roundw
      case rel =>
        have hne := HG2.out
        exact ⟨k + 1, by omega, by go_num, (HB1.out.setCell (p := ⟨w0.heap.size, 0, none⟩) hne.2 _).setCell (p := ⟨w0.heap.size, 1, none⟩) hne.2 _, (HR1.out.set_ne hne.1 _).set_ne hne.1 _, b', a', c1, _, (HS1.out.set0 _).set1 _, b', n1, a', c1, rfl, HS1.out.keeps (by simp) (by simp) _ _ _ _ HQ.out.1, HQ.out.2.1, HQ.out.2.2⟩
      case measure => simp [intOf]; omega
    · have e : k = zs.length := by omega
      subst e
      have hc0 := HR.out.cell0
      have hc1 := HR.out.cell1
      have hf0 := HR.out.free 0
      have hf1 := HR.out.free 1
      have hs0 := HSB.out.cell0
      have hs1 := HSB.out.cell1
      go_wp2
      refine ret_int rfl w.heap.size _ _ _ _ rfl ((HR.out.set0 _).set1 _) rfl ?_
      exact ⟨_, rfl, HIA.out.keep (HR.out.keeps (by simp) (by simp) _ _), (HBE.out.setCell (p := ⟨w.heap.size, 0, none⟩) (Nat.le_refl _) _).setCell (p := ⟨w.heap.size, 1, none⟩) (Nat.le_refl _) _⟩
end Go.Proofs.Ytgkibmigbjjnnaa
