/- swagelaw03.long answers false only where all texts are short. -/
import Derived.Test.YtgkibmigbjjnnaaRBox
import Derived.Deep.Cut
namespace Go.Proofs.Ytgkibmigbjjnnaa
open Go.RowKit

set_option linter.unusedVariables false

def ShortT (p : ByteArray × ByteArray) : Prop := p.1.size ≤ 300 ∧ p.2.size ≤ 300
def bT (l : List (ByteArray × ByteArray)) (i : Nat) : ByteArray × ByteArray := l.getD i (ByteArray.empty, ByteArray.empty)
/-- a list of fractions' texts -/
def FracL (w : World) (v : Value) (l : List (ByteArray × ByteArray)) : Prop :=
  ∃ a cap, v = .slice a l.length cap ∧ l.length ≤ cap ∧ cap ≤ maxLen ∧ ∀ i, i < l.length → ∃ b off, a = some ⟨b, off, none⟩ ∧ w.cell? ⟨b, off + i * 2, none⟩ = some (.string (bT l i).1) ∧ w.cell? ⟨b, off + i * 2 + 1, none⟩ = some (.string (bT l i).2) ∧ (bT l i).1.size ≤ 9223372036854775807 ∧ (bT l i).2.size ≤ 9223372036854775807
theorem FracL.below {w w' : World} {v : Value} {l : List (ByteArray × ByteArray)} (h : FracL w v l) (hb : Below w.heap.size w w') : FracL w' v l := by
  obtain ⟨a, cap, rfl, h1, h2, h3⟩ := h
  refine ⟨a, cap, rfl, h1, h2, fun i hi => ?_⟩
  obtain ⟨b, off, e, c1, c2, l1, l2⟩ := h3 i hi
  exact ⟨b, off, e, (hb.cell (World.block_lt_of_cell? w _ c1)).trans c1, (hb.cell (World.block_lt_of_cell? w _ c2)).trans c2, l1, l2⟩
theorem FracL.at {w : World} {a : Option Addr} {n cap : Nat} {l : List (ByteArray × ByteArray)} (h : FracL w (.slice a n cap) l) {i : Nat} (hi : i < l.length) :
    ∃ b off, a = some ⟨b, off, none⟩ ∧ w.cell? ⟨b, off + i * 2, none⟩ = some (.string (bT l i).1) ∧ w.cell? ⟨b, off + i * 2 + 1, none⟩ = some (.string (bT l i).2) ∧ (bT l i).1.size ≤ 9223372036854775807 ∧ (bT l i).2.size ≤ 9223372036854775807 := by
  obtain ⟨a', cap', he, _, _, h3⟩ := h
  simp only [Value.slice.injEq] at he
  obtain ⟨rfl, _, rfl⟩ := he
  exact h3 i hi
/-- a truth, false only where .. -/
def IfNo (p : Prop) (e : Ending) : Prop := ∃ r, e = .returned (.bool r) ∧ (r = false → p)
/-- a place, below 0 only where .. -/
def IfNeg (p : Prop) (e : Ending) : Prop := ∃ k : Int, e = .returned (.int .i64 k) ∧ (k < 0 → p)

set_option maxRecDepth 100000 in
set_option maxHeartbeats 400000 in
theorem longS_any (a b : ByteArray) (w : World) (la : a.size ≤ 9223372036854775807) (lb : b.size ≤ 9223372036854775807) :
    Calls Try.prog 49 #[.agg #[.string a, .string b]] w fun e w' => IfNo (ShortT (a, b)) e ∧ Below w.heap.size w w' := by
  by_cases h : 300 < a.size
  · go_enter Try.func49, Try.ntmps49
    go_wp2
    go_ret
    exact ⟨⟨_, rfl, fun h => by simp at h⟩, below_alloc _ _⟩
  · by_cases h' : 300 < b.size
    · go_enter Try.func49, Try.ntmps49
      go_wp2
      go_ret
      exact ⟨⟨_, rfl, fun h => by simp at h; exact ⟨by show a.size ≤ 300; omega, by show b.size ≤ 300; omega⟩⟩, below_alloc _ _⟩
    · go_enter Try.func49, Try.ntmps49
      go_wp2
      go_ret
      exact ⟨⟨_, rfl, fun _ => ⟨by show a.size ≤ 300; omega, by show b.size ≤ 300; omega⟩⟩, below_alloc _ _⟩

set_option maxRecDepth 100000 in
set_option maxHeartbeats 1000000 in
theorem indexS_any (v : Value) (l : List (ByteArray × ByteArray)) (w : World) (h : FracL w v l) :
    Calls Try.prog 80 #[v, .func (.func 49) #[] #[]] w fun e w' => IfNeg (∀ i, i < l.length → ShortT (bT l i)) e ∧ Below w.heap.size w w' := by
  have HF := hide h
  obtain ⟨a, cap, rfl, h1, h2, _⟩ := h
  obtain ⟨n, hn⟩ : ∃ n, l.length = n := ⟨_, rfl⟩
  have HN := hide hn
  rw [hn] at h1 HF ⊢
  clear hn
  unfold maxLen at h2
  go_enter Try.func80, Try.ntmps80
  go_wp2
  go_loopw [5, 8] (fun _ iv wr => ∃ k : Nat, k ≤ n ∧ iv = .int .i64 k ∧ Below w.heap.size w wr ∧ Hid (∀ i, i < k → ShortT (bT l i))) (fun _ iv _ => n - (intOf iv).toNat)
  case atStart => exact ⟨0, Nat.zero_le _, rfl, Below.refl _ _, hide (fun i hi => absurd hi (Nat.not_lt_zero i))⟩
  case round =>
    obtain ⟨k, hk, rfl, hb, HS⟩ := hrel
    have HB := hide hb
    clear hb
    by_cases hlt : k < n
    · obtain ⟨b, off, rfl, c1, c2, l1, l2⟩ := (HF.out.below HB.out).at (show k < l.length by rw [HN.out]; exact hlt)
      have L1 := hide l1
      have L2 := hide l2
      clear l1 l2
      obtain ⟨s, hs⟩ : ∃ s, (bT l k).1 = s := ⟨_, rfl⟩
      obtain ⟨t, ht⟩ : ∃ t, (bT l k).2 = t := ⟨_, rfl⟩
      rw [hs] at c1 L1
      rw [ht] at c2 L2
      have HT : Hid (bT l k = (s, t)) := hide (by rw [← hs, ← ht])
      clear hs ht
      have hltI : (k : Int) < (n : Int) := by omega
      go_wp2_with fail
      refine (longS_any s t _ L1.out L2.out).mono ?_
      rintro e w1 ⟨⟨r, rfl, hr⟩, hb⟩
      have HR := hide hr
      replace HB := hide (HB.out.trans (hb.mono HB.out.size))
      clear hb c1 c2 hr
      cases r with
      | true =>
        go_wp2
        go_ret
        exact ⟨⟨_, rfl, fun h => by omega⟩, HB.out⟩
      | false =>
        go_wp2
        go_roundw
        case rel => exact ⟨k + 1, by omega, by go_num, HB.out, hide (fun i hi => by
          rcases Nat.lt_or_ge i k with h | h
          · exact HS.out i h
          · have : i = k := by omega
            subst this; rw [HT.out]; exact HR.out (by trivial))⟩
        case measure => simp [intOf]; omega
    · go_wp2
      go_ret
      exact ⟨⟨_, rfl, fun _ i hi => HS.out i (by omega)⟩, HB.out⟩

set_option maxRecDepth 100000 in
set_option maxHeartbeats 400000 in
theorem containsS_any (v : Value) (l : List (ByteArray × ByteArray)) (w : World) (h : FracL w v l) :
    Calls Try.prog 48 #[v, .func (.func 49) #[] #[]] w fun e w' => IfNo (∀ i, i < l.length → ShortT (bT l i)) e ∧ Below w.heap.size w w' := by
  go_enter Try.func48, Try.ntmps48
  go_wp2_with fail
  refine (indexS_any v l _ h).mono ?_
  rintro e w1 ⟨⟨k, rfl, hk⟩, hb⟩
  have HK := hide hk
  clear hk
  go_wp2
  go_ret
  exact ⟨⟨_, rfl, fun h => HK.out (by simpa using h)⟩, hb⟩

set_option maxRecDepth 100000 in
set_option maxHeartbeats 400000 in
theorem longL_any (v : Value) (l : List (ByteArray × ByteArray)) (w : World) (h : FracL w v l) :
    Calls Try.prog 24 #[v] w fun e w' => IfNo (l.length ≤ 12 ∧ ∀ i, i < l.length → ShortT (bT l i)) e ∧ Below w.heap.size w w' := by
  have HF := hide h
  obtain ⟨a, cap, rfl, h1, h2, _⟩ := h
  unfold maxLen at h2
  by_cases hn : 12 < l.length
  · go_enter Try.func24, Try.ntmps24
    go_wp2
    go_ret
    exact ⟨⟨true, rfl, fun h => by cases h⟩, Below.refl _ _⟩
  · go_enter Try.func24, Try.ntmps24
    go_wp2_with fail
    refine (containsS_any _ l _ HF.out).mono ?_
    rintro e w1 ⟨⟨k, rfl, hk⟩, hb⟩
    have HK := hide hk
    clear hk
    go_wp2
    go_ret
    exact ⟨⟨_, rfl, fun h => ⟨by omega, HK.out (Bool.or_eq_false_iff.1 h).2⟩⟩, hb⟩

end Go.Proofs.Ytgkibmigbjjnnaa
