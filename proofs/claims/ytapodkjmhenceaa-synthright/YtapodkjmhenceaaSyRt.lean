/- synth.Right, swageref12.Right: whether points are right; swagelaw12.live. -/
import Derived.Test.YtapodkjmhenceaaPtTwWalk
namespace Go.Proofs.Ytapodkjmhenceaa
open Go.RowKit

theorem PtsAt.at2 {w : World} {a : Option Addr} {n cap : Nat} {ps : List (Int × Int)} (h : PtsAt w (.slice a n cap) ps) {i : Nat} (hi : i < ps.length) : ∃ b off, a = some ⟨b, off, none⟩ ∧ PtC w b (off + i * 2) (pA ps i) (pB ps i) := by
  obtain ⟨a', c', he, _, _, h3⟩ := h
  simp only [Value.slice.injEq] at he
  obtain ⟨rfl, _, rfl⟩ := he
  obtain ⟨b, off, rfl, h⟩ := h3 (by intro e; rw [e] at hi; simp at hi)
  exact ⟨b, off, rfl, h i hi⟩
/-- points are right -/
structure Rgt (ps : List (Int × Int)) : Prop where
  lo : 1 ≤ ps.length
  hi : ps.length ≤ 15
  each : ∀ i, i < ps.length → inB (pA ps i) (pB ps i) = true ∧ noB (pA ps i) (pB ps i) = false
  apart : ∀ i j, i < j → j < ps.length → twB ps i j = false
theorem TwAns.right {ps : List (Int × Int)} {i j : Nat} {ok : Bool} (h : TwAns ps i j ok) : ok = false ↔ ∀ i j, i < j → j < ps.length → twB ps i j = false := by
  rcases h with ⟨rfl, h1, h2, h3, _⟩ | ⟨rfl, _, _, h4⟩
  · constructor
    · intro h; cases h
    · intro h; rw [h i j h1 h2] at h3; cases h3
  · exact ⟨fun _ => h4, fun _ => rfl⟩
/-- a truth: whether they are right -/
def RgE (ps : List (Int × Int)) (e : Ending) : Prop := ∃ r : Bool, e = .returned (.bool r) ∧ (r = true ↔ Rgt ps)

set_option maxRecDepth 100000 in
set_option maxHeartbeats 4000000 in
theorem srt_any (va : Value) (ps : List (Int × Int)) (w : World) (h : PtsAt w va ps) :
    Calls Try.prog 32 #[va] w fun e w' => RgE ps e ∧ Below w.heap.size w w' := by
  have HI := hide h
  obtain ⟨a, cap, rfl, hcap, hmx, _⟩ := h
  unfold maxLen at hmx
  go_enter Try.func32, Try.ntmps32
  go_upto_region 1 with fail
  by_cases h1 : ps.length < 1
  · have h1' : (ps.length : Int) < 1 := by omega
    go_wp2
    go_ret
    exact ⟨⟨false, rfl, by simp; intro h; have := h.lo; omega⟩, Below.refl _ _⟩
  · have h1' : ¬ (ps.length : Int) < 1 := by omega
    by_cases h2 : 15 < ps.length
    · have h2' : (15 : Int) < (ps.length : Int) := by omega
      go_wp2
      go_ret
      exact ⟨⟨false, rfl, by simp; intro h; have := h.hi; omega⟩, Below.refl _ _⟩
    · have h2' : ¬ (15 : Int) < (ps.length : Int) := by omega
      go_wp2
      go_loopw [4, 18] (fun _ iv wr => ∃ k : Nat, k ≤ ps.length ∧ iv = .int .i64 k ∧ (∀ i, i < k → inB (pA ps i) (pB ps i) = true ∧ noB (pA ps i) (pB ps i) = false) ∧ Below w.heap.size w wr) (fun _ iv _ => ps.length - (intOf iv).toNat)
      case atStart => exact ⟨0, Nat.zero_le _, rfl, (fun i hi => absurd hi (by omega)), Below.refl _ _⟩
      case round =>
        obtain ⟨k, hk, rfl, hin, hb⟩ := hrel
        have HN := hide hin
        have HB := hide hb
        clear hin hb
        by_cases hlt : k < ps.length
        · obtain ⟨b, off, rfl, hc⟩ := (HI.out.below HB.out).at2 hlt
          have c0 := hc.cell0
          have c1 := hc.cell1
          clear hc
          obtain ⟨x, hx⟩ : ∃ x, x = pA ps k := ⟨_, rfl⟩
          obtain ⟨y, hy⟩ : ∃ y, y = pB ps k := ⟨_, rfl⟩
          rw [← hx] at c0
          rw [← hy] at c1
          have HX := hide (And.intro hx hy)
          clear hx hy
          have HA := hide (below_alloc wr (.cells #[.int .i64 x, .int .i64 y] 61))
          have PX := hide (Box2.new wr 61 (.int .i64 x) (.int .i64 y))
          have x0 := PX.out.cell0
          have x1 := PX.out.cell1
          go_wp2_with fail
          refine (in_any x y _).mono ?_
          rintro e w4 ⟨rfl, hb⟩
          replace PX := hide (PX.out.step hb)
          replace HB := hide ((HB.out.trans (HA.out.mono HB.out.size)).trans (hb.mono (HB.out.trans (HA.out.mono HB.out.size)).size))
          clear hb c0 c1 x0 x1 HA
          cases hxy : inB x y with
          | false =>
            go_wp2
            go_ret
            exact ⟨⟨false, rfl, by simp; intro h; have := (h.each k hlt).1; rw [← HX.out.1, ← HX.out.2, hxy] at this; cases this⟩, HB.out⟩
          | true =>
            have x0 := PX.out.cell0
            have x1 := PX.out.cell1
            go_wp2_with fail
            refine (none_any x y _).mono ?_
            rintro e w5 ⟨rfl, hb⟩
            replace HB := hide (HB.out.trans (hb.mono HB.out.size))
            clear hb x0 x1
            cases hno : noB x y with
            | true =>
              go_wp2
              go_ret
              exact ⟨⟨false, rfl, by simp; intro h; have := (h.each k hlt).2; rw [← HX.out.1, ← HX.out.2, hno] at this; cases this⟩, HB.out⟩
            | false =>
              go_wp2
              go_roundw
              case rel => exact ⟨k + 1, by omega, by go_num, (fun i hi => by
                by_cases e : i = k
                · rw [e, ← HX.out.1, ← HX.out.2]; exact ⟨hxy, hno⟩
                · exact HN.out i (by omega)), HB.out⟩
              case measure => simp [intOf]; omega
        · have e : k = ps.length := by omega
          subst e
          go_wp2_with fail
          refine (twins_any _ ps _ (HI.out.below HB.out) (by omega)).mono ?_
          rintro e w4 ⟨i, j, ok, rfl, ha, hb⟩
          have HA := hide ha.right
          replace HB := hide (HB.out.trans (hb.mono HB.out.size))
          clear hb ha
          go_wp2
          go_ret
          refine ⟨⟨!ok, rfl, ?_⟩, HB.out⟩
          constructor
          · intro h
            have hk : ok = false := by cases ok <;> simp_all
            exact ⟨by omega, by omega, HN.out, HA.out.1 hk⟩
          · intro h
            rw [HA.out.2 h.apart]
            rfl

set_option maxRecDepth 100000 in
set_option maxHeartbeats 4000000 in
theorem rrt_any (va : Value) (ps : List (Int × Int)) (w : World) (h : PtsAt w va ps) :
    Calls Try.prog 29 #[va] w fun e w' => RgE ps e ∧ Below w.heap.size w w' := by
  have HI := hide h
  obtain ⟨a, cap, rfl, hcap, hmx, _⟩ := h
  unfold maxLen at hmx
  go_enter Try.func29, Try.ntmps29
  go_upto_region 1 with fail
  by_cases h1 : ps.length < 1
  · have h1' : (ps.length : Int) < 1 := by omega
    go_wp2
    go_ret
    exact ⟨⟨false, rfl, by simp; intro h; have := h.lo; omega⟩, Below.refl _ _⟩
  · have h1' : ¬ (ps.length : Int) < 1 := by omega
    by_cases h2 : 15 < ps.length
    · have h2' : (15 : Int) < (ps.length : Int) := by omega
      go_wp2
      go_ret
      exact ⟨⟨false, rfl, by simp; intro h; have := h.hi; omega⟩, Below.refl _ _⟩
    · have h2' : ¬ (15 : Int) < (ps.length : Int) := by omega
      go_wp2
      go_loopw [3] (fun iv wr => ∃ k : Nat, k ≤ ps.length ∧ iv = .int .i64 k ∧ (∀ i, i < k → inB (pA ps i) (pB ps i) = true ∧ noB (pA ps i) (pB ps i) = false) ∧ Below w.heap.size w wr) (fun iv _ => ps.length - (intOf iv).toNat)
      case atStart => exact ⟨0, Nat.zero_le _, rfl, (fun i hi => absurd hi (by omega)), Below.refl _ _⟩
      case round =>
        obtain ⟨k, hk, rfl, hin, hb⟩ := hrel
        have HN := hide hin
        have HB := hide hb
        clear hin hb
        by_cases hlt : k < ps.length
        · obtain ⟨b, off, rfl, hc⟩ := (HI.out.below HB.out).at2 hlt
          have PC := hide hc
          have c0 := hc.cell0
          have c1 := hc.cell1
          clear hc
          obtain ⟨x, hx⟩ : ∃ x, x = pA ps k := ⟨_, rfl⟩
          obtain ⟨y, hy⟩ : ∃ y, y = pB ps k := ⟨_, rfl⟩
          rw [← hx] at c0 PC
          rw [← hy] at c1 PC
          have HX := hide (And.intro hx hy)
          clear hx hy
          go_wp2_with fail
          refine (rin_any x y _).mono ?_
          rintro e w4 ⟨rfl, hb⟩
          replace PC := hide (PC.out.step hb)
          replace HB := hide (HB.out.trans (hb.mono HB.out.size))
          clear hb c0 c1
          cases hxy : inB x y with
          | false =>
            go_wp2
            go_ret
            exact ⟨⟨false, rfl, by simp; intro h; have := (h.each k hlt).1; rw [← HX.out.1, ← HX.out.2, hxy] at this; cases this⟩, HB.out⟩
          | true =>
            have c0 := PC.out.cell0
            have c1 := PC.out.cell1
            go_wp2_with fail
            refine (rnone_any x y _).mono ?_
            rintro e w5 ⟨rfl, hb⟩
            replace HB := hide (HB.out.trans (hb.mono HB.out.size))
            clear hb c0 c1
            cases hno : noB x y with
            | true =>
              go_wp2
              go_ret
              exact ⟨⟨false, rfl, by simp; intro h; have := (h.each k hlt).2; rw [← HX.out.1, ← HX.out.2, hno] at this; cases this⟩, HB.out⟩
            | false =>
              go_wp2
              go_roundw
              case rel => exact ⟨k + 1, by omega, by go_num, (fun i hi => by
                by_cases e : i = k
                · rw [e, ← HX.out.1, ← HX.out.2]; exact ⟨hxy, hno⟩
                · exact HN.out i (by omega)), HB.out⟩
              case measure => simp [intOf]; omega
        · have e : k = ps.length := by omega
          subst e
          go_wp2_with fail
          refine (rtwins_any _ ps _ (HI.out.below HB.out) (by omega)).mono ?_
          rintro e w4 ⟨i, j, ok, rfl, ha, hb⟩
          have HA := hide ha.right
          replace HB := hide (HB.out.trans (hb.mono HB.out.size))
          clear hb ha
          go_wp2
          go_ret
          refine ⟨⟨!ok, rfl, ?_⟩, HB.out⟩
          constructor
          · intro h
            have hk : ok = false := by cases ok <;> simp_all
            exact ⟨by omega, by omega, HN.out, HA.out.1 hk⟩
          · intro h
            rw [HA.out.2 h.apart]
            rfl

theorem rgt_one : Rgt [(0, 1)] := by
  refine ⟨by decide, by decide, ?_, ?_⟩
  · intro i hi
    have : i = 0 := by simp at hi; omega
    subst this
    decide
  · intro i j h1 h2
    simp at h2
    omega
set_option maxRecDepth 100000 in
set_option maxHeartbeats 2000000 in
theorem live12_any (w : World) : Calls Try.prog 28 #[] w fun e w' => e = .returned (.bool true) ∧ Below w.heap.size w w' := by
  have HA := hide (below_alloc w (.cells #[.int .i64 0, .int .i64 1] 61))
  have PX := hide (Box2.new w 61 (.int .i64 0) (.int .i64 1))
  have PT : Hid (PtsAt (w.alloc (.cells #[.int .i64 0, .int .i64 1] 61)) (.slice (some ⟨w.heap.size, 0, none⟩) 1 1) [(0, 1)]) := hide ⟨_, _, rfl, Nat.le_refl _, by unfold maxLen; decide, fun _ => ⟨w.heap.size, 0, rfl, fun i hi => by
    have : i = 0 := by simp at hi; omega
    subst this
    exact ⟨PX.out.cell0, PX.out.cell1⟩⟩⟩
  go_enter Try.func28, Try.ntmps28
  go_wp2_with fail
  refine (srt_any _ _ _ PT.out).mono ?_
  rintro e w4 ⟨⟨r, rfl, hr⟩, hb⟩
  have e1 : r = true := hr.2 rgt_one
  subst e1
  replace HA := hide (HA.out.trans (hb.mono HA.out.size))
  clear hb hr PT PX
  go_wp2
  go_ret
  exact ⟨rfl, HA.out⟩
end Go.Proofs.Ytapodkjmhenceaa
