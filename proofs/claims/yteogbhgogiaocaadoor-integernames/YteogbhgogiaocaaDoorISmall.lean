/- integer.Int's Small: the number, if it is an int64. -/
import Derived.Test.YteogbhgogiaocaaDoorIOf
import Derived.Laws.Bits64b
namespace Go.Proofs.YteogbhgogiaocaaDoor
open Go.RowKit

abbrev Fits (z : Int) : Prop := -9223372036854775808 ≤ z ∧ z < 9223372036854775808
def smallOf (z : Int) : Ending := .returned (.tuple #[.int .i64 (if Fits z then z else 0), .bool (decide (Fits z))])

theorem lim_two {n : Nat} (h : (lim n).length ≤ 2) : n < 18446744073709551616 := by
  have := val_lt (ok_lim n)
  rw [val_lim] at this
  exact Nat.lt_of_lt_of_le this (Nat.le_trans (Nat.pow_le_pow_right BB_pos h) (by decide))
theorem lim_more {n : Nat} (h : ¬ (lim n).length ≤ 2) : 18446744073709551616 ≤ n := by
  rcases Nat.lt_or_ge n 18446744073709551616 with h' | h'
  · exact absurd (lim_length_le (k := 2) (by simpa [BB] using h')) h
  · exact h'

theorem smallOf_yes {z : Int} (h : Fits z) : smallOf z = .returned (.tuple #[.int .i64 z, .bool true]) := by unfold smallOf; rw [if_pos h, decide_eq_true h]
theorem smallOf_no {z : Int} (h : ¬ Fits z) : smallOf z = .returned (.tuple #[.int .i64 0, .bool false]) := by unfold smallOf; rw [if_neg h, decide_eq_false h]
theorem or_none (x : Nat) (hx : x < 4294967296) : bits .or .u64 0 (x : Int) = (x : Int) := by
  have := bits_or_u64_nat 0 x (by omega) (by omega)
  rw [Nat.zero_or] at this; exact this
theorem or_high (q x : Nat) (hq : q < 4294967296) (hx : x < 4294967296) : bits .or .u64 (q : Int) ((x : Int) * 4294967296) = ((q + BB ^ 1 * x : Nat) : Int) := by
  have := bits_or_u64_nat q (x * 4294967296) (by omega) (by omega)
  rw [show ((x * 4294967296 : Nat) : Int) = (x : Int) * 4294967296 from by rw [Int.natCast_mul]; rfl] at this
  rw [this]
  have e : q ||| x * 4294967296 = q + BB ^ 1 * x := by
    have := Nat.two_pow_add_eq_or_of_lt (i := 32) (b := q) (by omega) x
    rw [show (2 : Nat) ^ 32 = 4294967296 from by decide] at this
    rw [Nat.or_comm, Nat.mul_comm x, ← this, Nat.pow_one]; unfold BB; omega
  rw [e]

set_option maxRecDepth 100000 in
set_option maxHeartbeats 1000000 in
theorem ismall_any (v : Value) (z : Int) (w : World) (h : IntAt w v z) :
    Calls Tryd.prog 22 #[v] w fun e w' => e = smallOf z ∧ Below w.heap.size w w' := by
  obtain ⟨b, n, a, c, rfl, hn, rfl, h0⟩ := h
  have HE := hide (boxes1 w (.bool b) (.slice a (lim n).length c))
  have HN := hide (hn.below HE.out.2)
  have HZ := hide h0
  clear hn h0
  by_cases hl : (lim n).length ≤ 2
  · have HL := hide (lim_two hl)
    go_enter Tryd.func22, Tryd.ntmps22
    go_wp2
    go_loopw [4, 14] (fun av iv wr => ∃ k : Nat, k ≤ (lim n).length ∧ iv = .int .i64 k ∧ av = .int .u64 (val ((lim n).take k) : Nat) ∧ wr = w.alloc (.cells #[.bool b, .slice a (lim n).length c] 25)) (fun _ iv _ => (lim n).length - (intOf iv).toNat)
    case atStart => exact ⟨0, Nat.zero_le _, rfl, by simp [val], rfl⟩
    case round =>
      obtain ⟨k, hk, rfl, rfl, rfl⟩ := hrel
      by_cases hlt : k < (lim n).length
      · obtain ⟨blk, off, rfl, hc⟩ : ∃ blk off, a = some ⟨blk, off, none⟩ ∧ ∀ i, i < (lim n).length → (w.alloc (.cells #[.bool b, .slice a (lim n).length c] 25)).cell? ⟨blk, off + i, none⟩ = some (.int .u32 (lm (lim n) i : Nat)) := by
          obtain ⟨_, a', c', he, _, _, h3⟩ := HN.out
          simp only [Value.slice.injEq] at he
          obtain ⟨rfl, _, rfl⟩ := he
          exact h3 (ne_nil hlt)
        have hck := hc k hlt
        have hxk : lm (lim n) k < 4294967296 := (ok_lim n).at k
        have hts := take_succ_val (lim n) k hlt
        have HTS := hide hts
        clear hc hts
        rcases Nat.eq_zero_or_pos k with hk0 | hk1
        · subst hk0
          have hcm : c ≤ 9223372036854775807 := by obtain ⟨_, a', c', he, _, h2, _⟩ := HN.out; simp only [Value.slice.injEq] at he; obtain ⟨_, _, rfl⟩ := he; exact h2
          simp only [List.take_zero, val, Nat.add_zero, Int.natCast_zero] at hck ⊢
          go_wp2
          go_roundw
          case rel => exact ⟨1, by omega, rfl, by rw [or_none _ hxk, HTS.out]; simp [val], trivial⟩
          case measure => simp [intOf]; omega
        · have hk2 : k = 1 := by omega
          subst hk2
          go_wp2
          go_roundw
          case rel => exact ⟨2, by omega, rfl, by rw [or_high _ _ (val_lt (Ok.take (ok_lim n) 1) |> fun h => Nat.lt_of_lt_of_le h (Nat.le_trans (Nat.pow_le_pow_right BB_pos (show (List.take 1 (lim n)).length ≤ 1 by rw [List.length_take]; omega)) (by decide))) hxk, HTS.out], trivial⟩
          case measure => simp [intOf]; omega
      · have e : k = (lim n).length := by omega
        subst e
        rw [List.take_length, val_lim]
        have hl64 : (n : Int) < 18446744073709551616 := by have := HL.out; omega
        cases b with
        | true =>
          by_cases hf : (n : Int) ≤ 9223372036854775808
          · go_wp2
            go_ret2
            refine ⟨?_, HE.out.2⟩
            have : Fits (sg true n) := by unfold Fits; rw [sg_true]; omega
            rw [smallOf_yes this, sg_true, show wrap64 (IntKind.u64.wrap (-(n : Int))) = -(n : Int) from by rw [IntKind.wrap_u64]; unfold wrap64; omega]
            rfl
          · go_wp2
            go_ret2
            have : ¬ Fits (sg true n) := by unfold Fits; rw [sg_true]; omega
            refine ⟨Eq.trans ?_ (smallOf_no this).symm, HE.out.2⟩
            rfl
        | false =>
          by_cases hf : (n : Int) < 9223372036854775808
          · go_wp2
            go_ret2
            have : Fits (sg false n) := by unfold Fits; rw [sg_false]; omega
            refine ⟨Eq.trans ?_ (smallOf_yes this).symm, HE.out.2⟩
            rfl
          · go_wp2
            go_ret2
            have : ¬ Fits (sg false n) := by unfold Fits; rw [sg_false]; omega
            refine ⟨Eq.trans ?_ (smallOf_no this).symm, HE.out.2⟩
            rfl
  · have HL := hide (lim_more hl)
    go_enter Tryd.func22, Tryd.ntmps22
    go_wp2
    go_ret2
    refine ⟨?_, HE.out.2⟩
    have : ¬ Fits (sg b n) := by unfold Fits; have := HL.out; cases b <;> simp <;> omega
    rw [smallOf_no this]
    rfl
end Go.Proofs.YteogbhgogiaocaaDoor
