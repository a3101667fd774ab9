/- swagelaw03.long answers. -/
import Derived.Test.YtpbfbjipdacbkabRBox
import Derived.Deep.Cut
namespace Go.Proofs.Ytpbfbjipdacbkab
open Go.RowKit

set_option linter.unusedVariables false

/-- a list of fractions' texts -/
def Fracs (w : World) (v : Value) (n : Nat) : Prop :=
  ∃ b off cap, v = .slice (some ⟨b, off, none⟩) n cap ∧ n ≤ cap ∧ cap ≤ maxLen ∧ ∀ i, i < n → ∃ s t, w.cell? ⟨b, off + i * 2, none⟩ = some (.string s) ∧ w.cell? ⟨b, off + i * 2 + 1, none⟩ = some (.string t) ∧ s.size ≤ 9223372036854775807 ∧ t.size ≤ 9223372036854775807
theorem Fracs.below {w w' : World} {v : Value} {n : Nat} (h : Fracs w v n) (hb : Below w.heap.size w w') : Fracs w' v n := by
  obtain ⟨b, off, cap, rfl, h1, h2, h3⟩ := h
  refine ⟨b, off, cap, rfl, h1, h2, fun i hi => ?_⟩
  obtain ⟨s, t, c1, c2, l1, l2⟩ := h3 i hi
  exact ⟨s, t, (hb.cell (World.block_lt_of_cell? w _ c1)).trans c1, (hb.cell (World.block_lt_of_cell? w _ c2)).trans c2, l1, l2⟩

set_option maxRecDepth 100000 in
set_option maxHeartbeats 400000 in
theorem long1_any (a b : ByteArray) (w : World) (la : a.size ≤ 9223372036854775807) (lb : b.size ≤ 9223372036854775807) :
    Calls Try.prog 63 #[.agg #[.string a, .string b]] w fun e w' => SomeB e ∧ Below w.heap.size w w' := by
  by_cases h : 300 < a.size
  · go_enter Try.func63, Try.ntmps63
    go_wp2
    go_ret
    exact ⟨⟨_, rfl⟩, below_alloc _ _⟩
  · by_cases h' : 300 < b.size
    · go_enter Try.func63, Try.ntmps63
      go_wp2
      go_ret
      exact ⟨⟨_, rfl⟩, below_alloc _ _⟩
    · go_enter Try.func63, Try.ntmps63
      go_wp2
      go_ret
      exact ⟨⟨_, rfl⟩, below_alloc _ _⟩

set_option maxRecDepth 100000 in
set_option maxHeartbeats 1000000 in
theorem indexFunc_any (v : Value) (n : Nat) (w : World) (h : Fracs w v n) :
    Calls Try.prog 90 #[v, .func (.func 63) #[] #[]] w fun e w' => ∃ k : Int, e = .returned (.int .i64 k) ∧ Below w.heap.size w w' := by
  have HF := hide h
  obtain ⟨b, off, cap, rfl, h1, h2, _⟩ := h
  unfold maxLen at h2
  go_enter Try.func90, Try.ntmps90
  go_wp2
  go_loopw [5, 8] (fun _ iv wr => ∃ k : Nat, k ≤ n ∧ iv = .int .i64 k ∧ Below w.heap.size w wr) (fun _ iv _ => n - (intOf iv).toNat)
  case atStart => exact ⟨0, Nat.zero_le _, rfl, Below.refl _ _⟩
  case round =>
    obtain ⟨k, hk, rfl, hb⟩ := hrel
    have HB := hide hb
    clear hb
    by_cases hlt : k < n
    · obtain ⟨b', off', cap', he, _, _, h3⟩ := HF.out.below HB.out
      simp only [Value.slice.injEq, Option.some.injEq, Addr.mk.injEq, and_true, true_and] at he
      obtain ⟨⟨rfl, rfl⟩, rfl⟩ := he
      obtain ⟨s, t, c1, c2, l1, l2⟩ := h3 k hlt
      clear h3
      have hltI : (k : Int) < (n : Int) := by omega
      go_wp2_with fail
      refine (long1_any s t _ l1 l2).mono ?_
      rintro e w1 ⟨⟨r, rfl⟩, hb⟩
      replace HB := hide (HB.out.trans (hb.mono HB.out.size))
      clear hb c1 c2
      cases r with
      | true =>
        go_wp2
        go_ret
        exact ⟨_, rfl, HB.out⟩
      | false =>
        go_wp2
        go_roundw
        case rel => exact ⟨k + 1, by omega, by go_num, HB.out⟩
        case measure => simp [intOf]; omega
    · go_wp2
      go_ret
      exact ⟨_, rfl, HB.out⟩

set_option maxRecDepth 100000 in
set_option maxHeartbeats 400000 in
theorem containsFunc_any (v : Value) (n : Nat) (w : World) (h : Fracs w v n) :
    Calls Try.prog 62 #[v, .func (.func 63) #[] #[]] w fun e w' => SomeB e ∧ Below w.heap.size w w' := by
  go_enter Try.func62, Try.ntmps62
  go_wp2_with fail
  refine (indexFunc_any v n _ h).mono ?_
  rintro e w1 ⟨k, rfl, hb⟩
  go_wp2
  go_ret
  exact ⟨⟨_, rfl⟩, hb⟩

set_option maxRecDepth 100000 in
set_option maxHeartbeats 400000 in
theorem long3_any (v : Value) (n : Nat) (w : World) (h : Fracs w v n) :
    Calls Try.prog 20 #[v] w fun e w' => SomeB e ∧ Below w.heap.size w w' := by
  have HF := hide h
  obtain ⟨b, off, cap, rfl, h1, h2, _⟩ := h
  unfold maxLen at h2
  by_cases hn : 12 < n
  · go_enter Try.func20, Try.ntmps20
    go_wp2
    go_ret
    exact ⟨⟨_, rfl⟩, Below.refl _ _⟩
  · go_enter Try.func20, Try.ntmps20
    go_wp2_with fail
    refine (containsFunc_any _ n _ HF.out).mono ?_
    rintro e w1 ⟨⟨k, rfl⟩, hb⟩
    go_wp2
    go_ret
    exact ⟨⟨_, rfl⟩, hb⟩

/-- three fractions' texts side by side -/
theorem fracs_lit3 {w : World} {t : TypeId} {a b c d e f : ByteArray} (ha : a.size ≤ 9223372036854775807) (hb : b.size ≤ 9223372036854775807) (hc : c.size ≤ 9223372036854775807) (hd : d.size ≤ 9223372036854775807) (he : e.size ≤ 9223372036854775807) (hf : f.size ≤ 9223372036854775807) :
    Fracs (w.alloc (.cells #[.string a, .string b, .string c, .string d, .string e, .string f] t)) (.slice (some ⟨w.heap.size, 0, none⟩) 3 3) 3 := by
  refine ⟨w.heap.size, 0, 3, rfl, by simp, by simp [maxLen], fun i hi => ?_⟩
  match i, hi with
  | 0, _ => exact ⟨a, b, by simp, by simp, ha, hb⟩
  | 1, _ => exact ⟨c, d, by simp, by simp, hc, hd⟩
  | 2, _ => exact ⟨e, f, by simp, by simp, he, hf⟩
end Go.Proofs.Ytpbfbjipdacbkab
