/- A variable that holds a number; how great numbers get; lists of three. -/
import Derived.Test.YtmibgcpafccliaaDoorIOps
import Derived.Laws.Bits64b
import Derived.Test.YtmibgcpafccliaaDoorMul
namespace Go.Proofs.YtmibgcpafccliaaDoor
open Go.RowKit

theorem cmpZ_lt {x y : Int} (h : x < y) : cmpZ x y = -1 := if_pos h
theorem cmpZ_eq (x : Int) : cmpZ x x = 0 := by unfold cmpZ; rw [if_neg (by omega), if_pos rfl]
theorem cmpZ_gt {x y : Int} (h : y < x) : cmpZ x y = 1 := by unfold cmpZ; rw [if_neg (by omega), if_neg (by omega)]
theorem cmpI_lt {m n : Nat} (h : m < n) : cmpI m n = -1 := if_pos h
theorem cmpI_eq (m : Nat) : cmpI m m = 0 := by unfold cmpI; rw [if_neg (by omega), if_neg (by omega)]
theorem cmpI_gt {m n : Nat} (h : n < m) : cmpI m n = 1 := by unfold cmpI; rw [if_neg (by omega), if_pos h]
theorem cmpZ_nn (m n : Nat) : cmpZ (sg false m) (sg false n) = cmpI m n := by
  rw [sg_false, sg_false]
  rcases Nat.lt_trichotomy m n with h | h | h
  · rw [cmpI_lt h, cmpZ_lt (by omega)]
  · subst h; rw [cmpI_eq, cmpZ_eq]
  · rw [cmpI_gt h, cmpZ_gt (by omega)]
theorem cmpZ_tt (m n : Nat) : cmpZ (sg true m) (sg true n) = cmpI n m := by
  rw [sg_true, sg_true]
  rcases Nat.lt_trichotomy m n with h | h | h
  · rw [cmpI_gt h, cmpZ_gt (by omega)]
  · subst h; rw [cmpI_eq, cmpZ_eq]
  · rw [cmpI_lt h, cmpZ_lt (by omega)]


theorem val_two (n : Nat) : val [n % BB, n / BB] = n := by simp only [val]; rw [Nat.mul_zero, Nat.add_zero]; exact Nat.mod_add_div n BB
theorem of_low (z : Int) (hlo : -9223372036854775808 ≤ z) (h : z < 0) : IntKind.u64.wrap (-IntKind.u64.wrap z) % 4294967296 = ((z.natAbs % BB : Nat) : Int) := by
  rw [IntKind.wrap_u64, IntKind.wrap_u64]; unfold BB; omega
theorem of_high (z : Int) (hlo : -9223372036854775808 ≤ z) (h : z < 0) : IntKind.u64.wrap (-IntKind.u64.wrap z) / 4294967296 % 4294967296 = ((z.natAbs / BB : Nat) : Int) := by
  rw [IntKind.wrap_u64, IntKind.wrap_u64]; unfold BB; omega

theorem of_low' (z : Int) (h : 0 ≤ z) : z % 4294967296 = ((z.natAbs % BB : Nat) : Int) := by unfold BB; omega
theorem of_high' (z : Int) (h : 0 ≤ z) : z / 4294967296 = ((z.natAbs / BB : Nat) : Int) := by unfold BB; omega
theorem nums_lit2_past {w : World} {o : Obj} {e : TypeId} {x y : Int} {m n : Nat} (hx : x = m) (hy : y = n) (hm : m < BB) (hn : n < BB) : Nums ((w.alloc o).alloc (.cells #[.int .u32 x, .int .u32 y] e)) (.slice (some ⟨w.heap.size + 1, 0, none⟩) 2 2) [m, n] := by
  have := nums_lit2 (w.alloc o) e x y m n hx hy hm hn
  rwa [World.size_alloc] at this
theorem high_lt (z : Int) (hlo : -9223372036854775808 ≤ z) (hhi : z ≤ 9223372036854775807) : z.natAbs / BB < BB := by unfold BB; omega

set_option maxRecDepth 100000 in
set_option maxHeartbeats 400000 in
theorem iof_any (z : Int) (w : World) (hlo : -9223372036854775808 ≤ z) (hhi : z ≤ 9223372036854775807) :
    Calls Tryd.prog 55 #[.int .i64 z] w fun e w' => ∃ v, e = .returned v ∧ IntAt w' v z ∧ Below w.heap.size w w' := by
  have HL := hide hlo
  have HH := hide hhi
  have HE := hide (boxes1 w (.bool false) (.slice none 0 0))
  by_cases h : z < 0
  · have HZ := hide h
    clear hlo hhi
    go_enter Tryd.func55, Tryd.ntmps55
    go_wp2_with fail
    refine (make_any true _ [z.natAbs % BB, z.natAbs / BB] _ (nums_lit2_past (of_low z HL.out HZ.out) (of_high z HL.out HZ.out) (Nat.mod_lt _ BB_pos) (high_lt z HL.out HH.out)) (by simp)).mono ?_
    rintro e w2 ⟨v, rfl, ⟨b', n', a', c', rfl, hn', he, h0⟩, hb2⟩
    have HX := hide ((HE.out.1.step (below_alloc _ _)).step hb2)
    have HB := hide (HE.out.2.trans (((below_alloc _ _).trans (hb2.mono (by simp))).mono (by simp)))
    have hc0 := HX.out.cell0
    have hc1 := HX.out.cell1
    have hf0 := HX.out.free 0
    have hf1 := HX.out.free 1
    clear hb2
    go_wp2
    refine ret_int rfl w.heap.size _ _ _ _ rfl ((HX.out.set0 _).set1 _) rfl ?_
    exact handed HX.out (by simp) (by simp) (Nat.le_refl _) HB.out hn' (by rw [← he, val_two, sg_true]; have := HZ.out; omega) h0
  · have hp : 0 ≤ z := by omega
    have HZ := hide hp
    clear hp
    go_enter Tryd.func55, Tryd.ntmps55
    go_wp2_with fail
    refine (make_any false _ [z.natAbs % BB, z.natAbs / BB] _ (nums_lit2_past (of_low' z HZ.out) (of_high' z HZ.out) (Nat.mod_lt _ BB_pos) (high_lt z HL.out HH.out)) (by simp)).mono ?_
    rintro e w2 ⟨v, rfl, ⟨b', n', a', c', rfl, hn', he, h0⟩, hb2⟩
    have HX := hide ((HE.out.1.step (below_alloc _ _)).step hb2)
    have HB := hide (HE.out.2.trans (((below_alloc _ _).trans (hb2.mono (by simp))).mono (by simp)))
    have hc0 := HX.out.cell0
    have hc1 := HX.out.cell1
    have hf0 := HX.out.free 0
    have hf1 := HX.out.free 1
    clear hb2
    go_wp2
    refine ret_int rfl w.heap.size _ _ _ _ rfl ((HX.out.set0 _).set1 _) rfl ?_
    exact handed HX.out (by simp) (by simp) (Nat.le_refl _) HB.out hn' (by rw [← he, val_two, sg_false]; have := HZ.out; omega) h0
end Go.Proofs.YtmibgcpafccliaaDoor

namespace Go.Proofs.YtmibgcpafccliaaDoor
open Go.RowKit

abbrev Fits (z : Int) : Prop := -9223372036854775808 ≤ z ∧ z < 9223372036854775808
def smallOf (z : Int) : Ending := .returned (.tuple #[.int .i64 (if Fits z then z else 0), .bool (decide (Fits z))])

theorem lim_two {n : Nat} (h : (lim n).length ≤ 2) : n < 18446744073709551616 := by
  have := val_lt (ok_lim n)
  rw [val_lim] at this
  exact Nat.lt_of_lt_of_le this (Nat.le_trans (Nat.pow_le_pow_right BB_pos h) (by decide))
theorem lim_more {n : Nat} (h : ¬ (lim n).length ≤ 2) : 18446744073709551616 ≤ n := by
  rcases Nat.lt_or_ge n 18446744073709551616 with h' | h'
  · exact absurd (lim_length_le (k := 2) (by simpa [BB] using h')) h
  · exact h'

theorem smallOf_yes {z : Int} (h : Fits z) : smallOf z = .returned (.tuple #[.int .i64 z, .bool true]) := by unfold smallOf; rw [if_pos h, decide_eq_true h]
theorem smallOf_no {z : Int} (h : ¬ Fits z) : smallOf z = .returned (.tuple #[.int .i64 0, .bool false]) := by unfold smallOf; rw [if_neg h, decide_eq_false h]
theorem or_none (x : Nat) (hx : x < 4294967296) : bits .or .u64 0 (x : Int) = (x : Int) := by
  have := bits_or_u64_nat 0 x (by omega) (by omega)
  rw [Nat.zero_or] at this; exact this
theorem or_high (q x : Nat) (hq : q < 4294967296) (hx : x < 4294967296) : bits .or .u64 (q : Int) ((x : Int) * 4294967296) = ((q + BB ^ 1 * x : Nat) : Int) := by
  have := bits_or_u64_nat q (x * 4294967296) (by omega) (by omega)
  rw [show ((x * 4294967296 : Nat) : Int) = (x : Int) * 4294967296 from by rw [Int.natCast_mul]; rfl] at this
  rw [this]
  have e : q ||| x * 4294967296 = q + BB ^ 1 * x := by
    have := Nat.two_pow_add_eq_or_of_lt (i := 32) (b := q) (by omega) x
    rw [show (2 : Nat) ^ 32 = 4294967296 from by decide] at this
    rw [Nat.or_comm, Nat.mul_comm x, ← this, Nat.pow_one]; unfold BB; omega
  rw [e]

set_option maxRecDepth 100000 in
set_option maxHeartbeats 1000000 in
theorem ismall_any (v : Value) (z : Int) (w : World) (h : IntAt w v z) :
    Calls Tryd.prog 57 #[v] w fun e w' => e = smallOf z ∧ Below w.heap.size w w' := by
  obtain ⟨b, n, a, c, rfl, hn, rfl, h0⟩ := h
  have HE := hide (boxes1 w (.bool b) (.slice a (lim n).length c))
  have HN := hide (hn.below HE.out.2)
  have HZ := hide h0
  clear hn h0
  by_cases hl : (lim n).length ≤ 2
  · have HL := hide (lim_two hl)
    go_enter Tryd.func57, Tryd.ntmps57
    go_wp2
    go_loopw [4, 14] (fun av iv wr => ∃ k : Nat, k ≤ (lim n).length ∧ iv = .int .i64 k ∧ av = .int .u64 (val ((lim n).take k) : Nat) ∧ wr = w.alloc (.cells #[.bool b, .slice a (lim n).length c] 44)) (fun _ iv _ => (lim n).length - (intOf iv).toNat)
    case atStart => exact ⟨0, Nat.zero_le _, rfl, by simp [val], rfl⟩
    case round =>
      obtain ⟨k, hk, rfl, rfl, rfl⟩ := hrel
      by_cases hlt : k < (lim n).length
      · obtain ⟨blk, off, rfl, hc⟩ : ∃ blk off, a = some ⟨blk, off, none⟩ ∧ ∀ i, i < (lim n).length → (w.alloc (.cells #[.bool b, .slice a (lim n).length c] 44)).cell? ⟨blk, off + i, none⟩ = some (.int .u32 (lm (lim n) i : Nat)) := by
          obtain ⟨_, a', c', he, _, _, h3⟩ := HN.out
          simp only [Value.slice.injEq] at he
          obtain ⟨rfl, _, rfl⟩ := he
          exact h3 (ne_nil hlt)
        have hck := hc k hlt
        have hxk : lm (lim n) k < 4294967296 := (ok_lim n).at k
        have hts := take_succ_val (lim n) k hlt
        have HTS := hide hts
        clear hc hts
        rcases Nat.eq_zero_or_pos k with hk0 | hk1
        · subst hk0
          have hcm : c ≤ 9223372036854775807 := by obtain ⟨_, a', c', he, _, h2, _⟩ := HN.out; simp only [Value.slice.injEq] at he; obtain ⟨_, _, rfl⟩ := he; exact h2
          simp only [List.take_zero, val, Nat.add_zero, Int.natCast_zero] at hck ⊢
          go_wp2
          go_roundw
          case rel => exact ⟨1, by omega, rfl, by rw [or_none _ hxk, HTS.out]; simp [val], trivial⟩
          case measure => simp [intOf]; omega
        · have hk2 : k = 1 := by omega
          subst hk2
          go_wp2
          go_roundw
          case rel => exact ⟨2, by omega, rfl, by rw [or_high _ _ (val_lt (Ok.take (ok_lim n) 1) |> fun h => Nat.lt_of_lt_of_le h (Nat.le_trans (Nat.pow_le_pow_right BB_pos (show (List.take 1 (lim n)).length ≤ 1 by rw [List.length_take]; omega)) (by decide))) hxk, HTS.out], trivial⟩
          case measure => simp [intOf]; omega
      · have e : k = (lim n).length := by omega
        subst e
        rw [List.take_length, val_lim]
        have hl64 : (n : Int) < 18446744073709551616 := by have := HL.out; omega
        cases b with
        | true =>
          by_cases hf : (n : Int) ≤ 9223372036854775808
          · go_wp2
            go_ret2
            refine ⟨?_, HE.out.2⟩
            have : Fits (sg true n) := by unfold Fits; rw [sg_true]; omega
            rw [smallOf_yes this, sg_true, show wrap64 (IntKind.u64.wrap (-(n : Int))) = -(n : Int) from by rw [IntKind.wrap_u64]; unfold wrap64; omega]
            rfl
          · go_wp2
            go_ret2
            have : ¬ Fits (sg true n) := by unfold Fits; rw [sg_true]; omega
            refine ⟨Eq.trans ?_ (smallOf_no this).symm, HE.out.2⟩
            rfl
        | false =>
          by_cases hf : (n : Int) < 9223372036854775808
          · go_wp2
            go_ret2
            have : Fits (sg false n) := by unfold Fits; rw [sg_false]; omega
            refine ⟨Eq.trans ?_ (smallOf_yes this).symm, HE.out.2⟩
            rfl
          · go_wp2
            go_ret2
            have : ¬ Fits (sg false n) := by unfold Fits; rw [sg_false]; omega
            refine ⟨Eq.trans ?_ (smallOf_no this).symm, HE.out.2⟩
            rfl
  · have HL := hide (lim_more hl)
    go_enter Tryd.func57, Tryd.ntmps57
    go_wp2
    go_ret2
    refine ⟨?_, HE.out.2⟩
    have : ¬ Fits (sg b n) := by unfold Fits; have := HL.out; cases b <;> simp <;> omega
    rw [smallOf_no this]
    rfl
end Go.Proofs.YtmibgcpafccliaaDoor

namespace Go.Proofs.YtmibgcpafccliaaDoor
open Go.RowKit

/-- a list of numbers in memory -/
def Ints (w : World) (v : Value) (zs : List Int) : Prop :=
  ∃ a cap, v = .slice a zs.length cap ∧ zs.length ≤ cap ∧ cap ≤ maxLen ∧ (zs ≠ [] → ∃ b off, a = some ⟨b, off, none⟩ ∧
    ∀ i, i < zs.length → ∃ s m c n, w.cell? ⟨b, off + i * 2, none⟩ = some (.bool s) ∧ w.cell? ⟨b, off + i * 2 + 1, none⟩ = some (.slice m n c) ∧ IntAt w (.agg #[.bool s, .slice m n c]) (zs.getD i 0))

theorem Ints.below {w w' : World} {v : Value} {zs : List Int} (h : Ints w v zs) (hb : Below w.heap.size w w') : Ints w' v zs := by
  obtain ⟨a, cap, rfl, h1, h2, h3⟩ := h
  refine ⟨a, cap, rfl, h1, h2, fun hx => ?_⟩
  obtain ⟨b, off, rfl, hc⟩ := h3 hx
  refine ⟨b, off, rfl, fun i hi => ?_⟩
  obtain ⟨s, m, c, n, k1, k2, k3⟩ := hc i hi
  exact ⟨s, m, c, n, (hb.cell (World.block_lt_of_cell? w _ k1)).trans k1, (hb.cell (World.block_lt_of_cell? w _ k2)).trans k2, k3.below hb⟩
theorem Ints.drew {w : World} {v : Value} {zs : List Int} (h : Ints w v zs) : Ints w.drew v zs := h
theorem Ints.nil (w : World) : Ints w (.slice none 0 0) [] := ⟨none, 0, rfl, Nat.le_refl _, Nat.zero_le _, fun h => absurd rfl h⟩

/-- the first k of a list, one behind the other -/
def accZ (f : Int → Int → Int) (z : Int) (zs : List Int) : Nat → Int
  | 0 => z
  | k + 1 => f (accZ f z zs k) (zs.getD k 0)

end Go.Proofs.YtmibgcpafccliaaDoor

namespace Go.Proofs.YtmibgcpafccliaaDoor
open Go.RowKit

set_option maxRecDepth 100000 in
set_option maxHeartbeats 400000 in
theorem live_any (w : World) : Calls Tryd.prog 24 #[] w fun e w' => e = .returned (.bool true) ∧ Below w.heap.size w w' := by
  go_enter Tryd.func24, Tryd.ntmps24
  go_wp2_with fail
  refine (iof_any (-7) _ (by decide) (by decide)).mono ?_
  rintro e w1 ⟨v1, rfl, n1, hb1⟩
  have HB1 := hide hb1
  clear hb1
  go_wp2_with fail
  refine (iof_any 2 _ (by decide) (by decide)).mono ?_
  rintro e w2 ⟨v2, rfl, n2, hb2⟩
  have HN1 := hide (n1.below hb2)
  have HB2 := hide (HB1.out.trans (hb2.mono HB1.out.size))
  have HN2 := hide n2
  clear hb2 n1 n2
  go_wp2_with fail
  refine (iadd_any _ _ (-7) 2 _ HN1.out HN2.out (Nat.le_trans (lim_length_le (k := 1) (by decide)) (by decide)) (Nat.le_trans (lim_length_le (k := 1) (by decide)) (by decide))).mono ?_
  rintro e w3 ⟨v3, rfl, n3, hb3⟩
  have HB3 := hide (HB2.out.trans (hb3.mono HB2.out.size))
  have HN3 := hide n3
  clear hb3 n3
  go_wp2_with fail
  refine (ismall_any _ _ _ HN3.out).mono ?_
  rintro e w4 ⟨he, hb4⟩
  rw [smallOf_yes (by decide)] at he
  subst he
  have HB4 := hide (HB3.out.trans (hb4.mono HB3.out.size))
  clear hb4
  go_wp2
  go_ret
  exact ⟨rfl, HB4.out⟩

/-- a list of the numbers that a statement is handed: how many limbs each has -/
def Lens (w : World) (v : Value) (ls : List Nat) : Prop :=
  ∃ b off cap, v = .slice (some ⟨b, off, none⟩) ls.length cap ∧ ls.length ≤ cap ∧ cap ≤ maxLen ∧ ∀ i, i < ls.length → ∃ m c, w.cell? ⟨b, off + i * 2 + 1, none⟩ = some (.slice m (ls.getD i 0) c) ∧ ls.getD i 0 ≤ maxLen

set_option maxRecDepth 100000 in
set_option maxHeartbeats 400000 in
theorem long_any (v : Value) (ls : List Nat) (w : World) (h : Lens w v ls) :
    Calls Tryd.prog 25 #[v] w fun e w' => e = .returned (.bool (ls.any fun m => decide (60 < m))) ∧ Below w.heap.size w w' := by
  obtain ⟨b, off, cap, rfl, hl, hm, hc⟩ := h
  unfold maxLen at hm
  have HC := hide hc
  clear hc
  go_enter Tryd.func25, Tryd.ntmps25
  go_wp2
  go_loopw [3] (fun iv wr => ∃ k : Nat, k ≤ ls.length ∧ iv = .int .i64 k ∧ wr = w ∧ ∀ j, j < k → ¬ 60 < ls.getD j 0) (fun iv _ => ls.length - (intOf iv).toNat)
  case atStart => exact ⟨0, Nat.zero_le _, rfl, rfl, fun j hj => absurd hj (Nat.not_lt_zero _)⟩
  case round =>
    obtain ⟨k, hk, rfl, rfl, hj⟩ := hrel
    have HJ := hide hj
    clear hj
    by_cases hlt : k < ls.length
    · obtain ⟨m, c, hcell, hml⟩ := HC.out k hlt
      unfold maxLen at hml
      have HA : Hid (60 < ls.getD k 0 → ls.any (fun m => decide (60 < m)) = true) := fun h => by
        rw [List.any_eq_true]
        refine ⟨ls[k], List.getElem_mem hlt, ?_⟩
        rw [List.getD_eq_getElem?_getD, List.getElem?_eq_getElem hlt] at h
        simpa using h
      obtain ⟨q, hq0⟩ : ∃ q, ls.getD k 0 = q := ⟨_, rfl⟩
      have HQ0 := hide hq0
      rw [hq0] at hcell hml
      clear hq0
      by_cases hq : 60 < q
      · go_wp2
        go_ret
        exact ⟨by rw [HA.out (by rw [HQ0.out]; exact hq)]; rfl, Below.refl _ _⟩
      · have HQ := hide hq
        go_wp2
        go_roundw
        case rel => exact ⟨k + 1, by omega, by go_num, trivial, fun j hj => by
          by_cases e : j = k
          · rw [e, HQ0.out]; exact HQ.out
          · exact HJ.out j (by omega)⟩
        case measure => simp [intOf]; omega
    · have e : k = ls.length := by omega
      subst e
      have : ls.any (fun m => decide (60 < m)) = false := by
        rw [List.any_eq_false]
        intro x hx
        obtain ⟨i, hi, rfl⟩ := List.mem_iff_getElem.1 hx
        have := HJ.out i hi
        rw [List.getD_eq_getElem?_getD, List.getElem?_eq_getElem hi] at this
        simpa using this
      have HT := hide this
      clear this
      go_wp2
      go_ret
      exact ⟨by rw [HT.out]; rfl, Below.refl _ _⟩
end Go.Proofs.YtmibgcpafccliaaDoor

namespace Go.Proofs.YtmibgcpafccliaaDoor
open Go.RowKit

/-- a block of two cells -/
def Box2 (W : World) (B : Nat) (t : TypeId) (x y : Value) : Prop := W.heap[B]? = some (.cells #[x, y] t (0, 0))
theorem Box2.cell0 {W : World} {B : Nat} {t : TypeId} {x y : Value} (h : Box2 W B t x y) : W.cell? ⟨B, 0, none⟩ = some x := by simp [World.cell?, show W.heap[B]? = _ from h]
theorem Box2.cell1 {W : World} {B : Nat} {t : TypeId} {x y : Value} (h : Box2 W B t x y) : W.cell? ⟨B, 1, none⟩ = some y := by simp [World.cell?, show W.heap[B]? = _ from h]
theorem Box2.free {W : World} {B : Nat} {t : TypeId} {x y : Value} (h : Box2 W B t x y) (o : Nat) : W.frozen? ⟨B, o, none⟩ = false := by simp [World.frozen?, show W.heap[B]? = _ from h]
theorem Box2.lt {W : World} {B : Nat} {t : TypeId} {x y : Value} (h : Box2 W B t x y) : B < W.heap.size := (Array.getElem?_eq_some_iff.1 h).1
theorem Box2.set0 {W : World} {B : Nat} {t : TypeId} {x y : Value} (h : Box2 W B t x y) (x' : Value) : Box2 (W.setCell ⟨B, 0, none⟩ x') B t x' y := by
  obtain ⟨hlt, hk⟩ := Array.getElem?_eq_some_iff.1 h
  show (W.heap.modify B _)[B]? = _
  rw [Array.getElem?_eq_getElem (by rw [Array.size_modify]; exact hlt), Array.getElem_modify_self, hk]
  simp
theorem Box2.set1 {W : World} {B : Nat} {t : TypeId} {x y : Value} (h : Box2 W B t x y) (y' : Value) : Box2 (W.setCell ⟨B, 1, none⟩ y') B t x y' := by
  obtain ⟨hlt, hk⟩ := Array.getElem?_eq_some_iff.1 h
  show (W.heap.modify B _)[B]? = _
  rw [Array.getElem?_eq_getElem (by rw [Array.size_modify]; exact hlt), Array.getElem_modify_self, hk]
  simp
theorem Box2.below {W W' : World} {B T : Nat} {t : TypeId} {x y : Value} (h : Box2 W B t x y) (hb : Below T W W') (hT : B < T) : Box2 W' B t x y := (hb.block B hT).trans h
theorem Box2.new (W : World) (t : TypeId) (x y : Value) : Box2 (W.alloc (.cells #[x, y] t)) W.heap.size t x y := heap_alloc_new _ _
theorem Box2.step {W W' : World} {B : Nat} {t : TypeId} {x y : Value} (h : Box2 W B t x y) (hb : Below W.heap.size W W') : Box2 W' B t x y := h.below hb h.lt
theorem Box2.drew {W : World} {B : Nat} {t : TypeId} {x y : Value} (h : Box2 W B t x y) : Box2 W.drew B t x y := h
theorem Box2.set_ne {W : World} {B C o : Nat} {t : TypeId} {x y : Value} (h : Box2 W B t x y) (hne : C ≠ B) (c : Value) : Box2 (W.setCell ⟨C, o, none⟩ c) B t x y := by
  show (W.heap.modify C _)[B]? = _
  rw [Array.getElem?_modify, if_neg hne]; exact h
end Go.Proofs.YtmibgcpafccliaaDoor

namespace Go.Proofs.YtmibgcpafccliaaDoor
open Go.RowKit

/-- a variable of the walk: its block, its cells, the number that they say -/
structure Var (w : World) (g : Nat) (s : Bool) (m : Option Addr) (n c : Nat) (z : Int) : Prop where
  box : Box w g (.bool s) (.slice m n c)
  int : IntAt w (.agg #[.bool s, .slice m n c]) z
theorem Var.step {w w' : World} {g : Nat} {s : Bool} {m : Option Addr} {n c : Nat} {z : Int} (h : Var w g s m n c z) (hb : Below w.heap.size w w') : Var w' g s m n c z := ⟨h.box.step hb, h.int.below hb⟩
theorem Var.drew {w : World} {g : Nat} {s : Bool} {m : Option Addr} {n c : Nat} {z : Int} (h : Var w g s m n c z) : Var w.drew g s m n c z := ⟨h.box.drew, h.int.drew⟩
theorem Var.keep {w : World} {g B : Nat} {s : Bool} {m : Option Addr} {n c : Nat} {z : Int} {x y : Value} (h : Var w g s m n c z) (hX : Box w B x y) (hx : ∀ z, x ≠ .int .u32 z) (hy : ∀ z, y ≠ .int .u32 z) (hne : B ≠ g) (x' y' : Value) : Var ((w.setCell ⟨B, 0, none⟩ x').setCell ⟨B, 1, none⟩ y') g s m n c z :=
  ⟨(h.box.set_ne hne _).set_ne hne _, h.int.keep (hX.keeps hx hy _ _)⟩
/-- a number that is laid down in a new variable -/
theorem IntAt.var {w : World} {s : Bool} {m : Option Addr} {n c : Nat} {z : Int} (h : IntAt w (.agg #[.bool s, .slice m n c]) z) : Var (w.alloc (.cells #[.bool s, .slice m n c] 44)) w.heap.size s m n c z := ⟨Box.new _ _ _, h.below (below_alloc _ _)⟩

/-- of so many limbs at most -/
def SzI (k : Nat) (z : Int) : Prop := z.natAbs < BB ^ k
theorem SzI.mono {j k : Nat} {z : Int} (h : SzI j z) (hl : j ≤ k) : SzI k z := Nat.lt_of_lt_of_le h (Nat.pow_le_pow_right (by decide) hl)
theorem SzI.len {k : Nat} {z : Int} (h : SzI k z) (hk : k ≤ 1000000000) : (lim z.natAbs).length ≤ 1000000000 := Nat.le_trans (lim_length_le h) hk
theorem SzI.add {j k : Nat} {x y : Int} (h : SzI j x) (h' : SzI k y) : SzI (max j k + 1) (x + y) := by
  have h1 : x.natAbs < BB ^ max j k := h.mono (Nat.le_max_left _ _)
  have h2 : y.natAbs < BB ^ max j k := h'.mono (Nat.le_max_right _ _)
  unfold SzI
  rw [Nat.pow_succ]
  have : BB ^ max j k * 2 ≤ BB ^ max j k * BB := Nat.mul_le_mul_left _ (by decide)
  omega
theorem SzI.neg {k : Nat} {x : Int} (h : SzI k x) : SzI k (-x) := by unfold SzI at *; rwa [neg_abs]
theorem SzI.sub {j k : Nat} {x y : Int} (h : SzI j x) (h' : SzI k y) : SzI (max j k + 1) (x - y) := by
  rw [Int.sub_eq_add_neg]; exact h.add h'.neg
theorem SzI.mul {j k : Nat} {x y : Int} (h : SzI j x) (h' : SzI k y) : SzI (j + k) (x * y) := by
  unfold SzI at *; rw [Nat.pow_add, Int.natAbs_mul]
  exact Nat.mul_lt_mul_of_lt_of_le h (Nat.le_of_lt h') (Nat.pow_pos (by decide))
theorem SzI.zero : SzI 0 0 := by unfold SzI; decide
theorem SzI.one : SzI 1 1 := by unfold SzI; decide
theorem SzI.of {b : Bool} {xs : List Nat} {k : Nat} (h : Ok xs) (hl : xs.length ≤ k) : SzI k (sg b (val xs)) := by
  unfold SzI; rw [sg_abs]
  exact Nat.lt_of_lt_of_le (val_lt h) (Nat.pow_le_pow_right (by decide) hl)


theorem isign_zero (v : Value) (z : Int) (w : World) (h : IntAt w v z) (e : z = 0) :
    Calls Tryd.prog 60 #[v] w fun e w' => e = .returned (.int .i64 0) ∧ Below w.heap.size w w' := by
  subst e
  refine (isign_any v 0 w h).mono ?_
  rintro e w' ⟨rfl, hb⟩
  exact ⟨rfl, hb⟩


/-- three numbers laid down side by side -/
theorem ints_lit3 {w : World} {t : TypeId} {x y z : Int} {s1 s2 s3 : Bool} {m1 m2 m3 : Option Addr} {n1 n2 n3 c1 c2 c3 : Nat} (h1 : IntAt w (.agg #[.bool s1, .slice m1 n1 c1]) x) (h2 : IntAt w (.agg #[.bool s2, .slice m2 n2 c2]) y) (h3 : IntAt w (.agg #[.bool s3, .slice m3 n3 c3]) z) :
    Ints (w.alloc (.cells #[.bool s1, .slice m1 n1 c1, .bool s2, .slice m2 n2 c2, .bool s3, .slice m3 n3 c3] t)) (.slice (some ⟨w.heap.size, 0, none⟩) 3 3) [x, y, z] := by
  refine ⟨_, 3, rfl, by simp, by simp [maxLen], fun _ => ⟨w.heap.size, 0, rfl, fun i hi => ?_⟩⟩
  match i, hi with
  | 0, _ => exact ⟨s1, m1, c1, n1, by simp, by simp, h1.below (below_alloc _ _)⟩
  | 1, _ => exact ⟨s2, m2, c2, n2, by simp, by simp, h2.below (below_alloc _ _)⟩
  | 2, _ => exact ⟨s3, m3, c3, n3, by simp, by simp, h3.below (below_alloc _ _)⟩

theorem nboxes1 (t : TypeId) (w : World) (x y : Value) : Box2 (w.alloc (.cells #[x, y] t)) w.heap.size t x y ∧ Below w.heap.size w (w.alloc (.cells #[x, y] t)) := ⟨Box2.new _ _ _ _, below_alloc _ _⟩
theorem nboxes2 (t : TypeId) (w : World) (x y x' y' : Value) : Box2 ((w.alloc (.cells #[x, y] t)).alloc (.cells #[x', y'] t)) w.heap.size t x y ∧ Box2 ((w.alloc (.cells #[x, y] t)).alloc (.cells #[x', y'] t)) (w.heap.size + 1) t x' y' ∧ Below w.heap.size w ((w.alloc (.cells #[x, y] t)).alloc (.cells #[x', y'] t)) :=
  ⟨(Box2.new _ _ _ _).step (below_alloc _ _), by have := Box2.new (w.alloc (.cells #[x, y] t)) t x' y'; rwa [World.size_alloc] at this, (below_alloc _ _).trans ((below_alloc _ _).mono (by simp))⟩
theorem nboxes3 (t : TypeId) (w : World) (x y x' y' x'' y'' : Value) : Box2 (((w.alloc (.cells #[x, y] t)).alloc (.cells #[x', y'] t)).alloc (.cells #[x'', y''] t)) w.heap.size t x y ∧ Box2 (((w.alloc (.cells #[x, y] t)).alloc (.cells #[x', y'] t)).alloc (.cells #[x'', y''] t)) (w.heap.size + 1) t x' y' ∧
    Box2 (((w.alloc (.cells #[x, y] t)).alloc (.cells #[x', y'] t)).alloc (.cells #[x'', y''] t)) (w.heap.size + 1 + 1) t x'' y'' ∧ Below w.heap.size w (((w.alloc (.cells #[x, y] t)).alloc (.cells #[x', y'] t)).alloc (.cells #[x'', y''] t)) :=
  ⟨(nboxes2 t w x y x' y').1.step (below_alloc _ _), (nboxes2 t w x y x' y').2.1.step (below_alloc _ _), by have := Box2.new ((w.alloc (.cells #[x, y] t)).alloc (.cells #[x', y'] t)) t x'' y''; rwa [World.size_alloc, World.size_alloc] at this, (nboxes2 t w x y x' y').2.2.trans ((below_alloc _ _).mono (by simp; omega))⟩

/-- the numbers that a statement is handed, side by side -/
theorem lens_lit {w : World} {t : TypeId} (cs : Array Value) (ls : List Nat) (h0 : ls.length ≤ maxLen) (h : ∀ i, i < ls.length → ∃ m c, (w.alloc (.cells cs t)).cell? ⟨w.heap.size, 0 + i * 2 + 1, none⟩ = some (.slice m (ls.getD i 0) c) ∧ ls.getD i 0 ≤ maxLen) :
    Lens (w.alloc (.cells cs t)) (.slice (some ⟨w.heap.size, 0, none⟩) ls.length ls.length) ls := ⟨_, _, _, rfl, Nat.le_refl _, h0, h⟩
end Go.Proofs.YtmibgcpafccliaaDoor
