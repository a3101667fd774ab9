/- Numbers sorted, each once. Nothing of the program. -/
import Derived.Test.YtapodkjmhenceaaPtList
import Derived.Lib.SlicesCompact
namespace Go.Proofs.Ytapodkjmhenceaa
open Go.RowKit

theorem one_cell0 (w : World) (x : Value) (t : TypeId) : (w.alloc (.cells #[x] t)).cell? ⟨w.heap.size, 0, none⟩ = some x := by
  have hh : (w.alloc (.cells #[x] t)).heap[w.heap.size]? = some (.cells #[x] t (0, 0)) := heap_alloc_new _ _
  unfold World.cell?
  simp only [hh]
  simp
theorem one_cellI (w : World) (x : Value) (t : TypeId) : ∀ j u, ([x] : List Value)[j]? = some u → (w.alloc (.cells #[x] t)).cell? ((⟨w.heap.size, 0, none⟩ : Addr).add j) = some u := by
  intro j u hj
  match j with
  | 0 => simp only [List.getElem?_cons_zero, Option.some.injEq] at hj; rw [← hj]; exact one_cell0 w x t
  | j + 1 => simp at hj
theorem inc_ext : ∀ (xs ys : List Int), xs.Pairwise (· < ·) → ys.Pairwise (· < ·) → (∀ z, z ∈ xs ↔ z ∈ ys) → xs = ys
  | [], [], _, _, _ => rfl
  | [], y :: ys, _, _, h => absurd ((h y).2 (by simp)) (by simp)
  | x :: xs, [], _, _, h => absurd ((h x).1 (by simp)) (by simp)
  | x :: xs, y :: ys, hx, hy, h => by
    have hx' := List.pairwise_cons.1 hx
    have hy' := List.pairwise_cons.1 hy
    have e : x = y := by
      have h1 := (h x).1 (by simp)
      have h2 := (h y).2 (by simp)
      rcases List.mem_cons.1 h1 with e | h1
      · exact e
      · rcases List.mem_cons.1 h2 with e | h2
        · exact e.symm
        · have := hy'.1 x h1; have := hx'.1 y h2; omega
    subst e
    rw [inc_ext xs ys hx'.2 hy'.2 fun z => ?_]
    constructor
    · intro hz
      rcases List.mem_cons.1 ((h z).1 (by simp [hz])) with e | h
      · have := hx'.1 z hz; omega
      · exact h
    · intro hz
      rcases List.mem_cons.1 ((h z).2 (by simp [hz])) with e | h
      · have := hy'.1 z hz; omega
      · exact h
theorem get_sorted {zs : List Int} (h : zs.Pairwise (· ≤ ·)) {i j : Nat} (hij : i ≤ j) (hj : j < zs.length) : zs.toArray[i]! ≤ zs.toArray[j]! := by
  have hi : i < zs.length := by omega
  rw [getElem!_pos zs.toArray i (by simpa using hi), getElem!_pos zs.toArray j (by simpa using hj)]
  simp only [List.getElem_toArray]
  rcases Nat.lt_or_eq_of_le hij with h1 | rfl
  · exact List.pairwise_iff_getElem.1 h i j hi hj h1
  · exact Int.le_refl _
theorem compact_inc {zs : List Int} (h : zs.Pairwise (· ≤ ·)) : (Lib.compact zs).Pairwise (· < ·) := by
  unfold Lib.compact Lib.compactUpTo
  rw [List.pairwise_map]
  have h1 : ((List.range zs.length).filter (Lib.keeps zs.toArray)).Pairwise (· < ·) := List.pairwise_lt_range.filter _
  refine h1.imp_of_mem fun {i j} hi hj hij => ?_
  obtain ⟨hj1, hj2⟩ := List.mem_filter.1 hj
  have hjl := List.mem_range.1 hj1
  have k1 := get_sorted h (i := i) (j := j - 1) (by omega) (by omega)
  have k2 := get_sorted h (i := j - 1) (j := j) (by omega) hjl
  have k3 : zs.toArray[j]! ≠ zs.toArray[j - 1]! := by
    intro e
    rw [Lib.keeps_neg (by omega) e] at hj2
    cases hj2
  omega
theorem compact_mem {zs : List Int} (z : Int) : z ∈ Lib.compact zs ↔ z ∈ zs := by
  unfold Lib.compact Lib.compactUpTo
  constructor
  · intro h
    obtain ⟨i, hi, rfl⟩ := List.mem_map.1 h
    have hl := List.mem_range.1 (List.mem_filter.1 hi).1
    rw [getElem!_pos zs.toArray i (by simpa using hl)]
    simp
  · intro h
    obtain ⟨i, hi, rfl⟩ := List.getElem_of_mem h
    induction i with
    | zero =>
      refine List.mem_map.2 ⟨0, List.mem_filter.2 ⟨List.mem_range.2 hi, Lib.keeps_lt_one _ 0 (by omega)⟩, ?_⟩
      rw [getElem!_pos zs.toArray 0 (by simpa using hi)]
      simp
    | succ i ih =>
      have e1 : zs.toArray[i + 1]! = zs[i + 1] := by rw [getElem!_pos zs.toArray (i + 1) (by simpa using hi)]; simp
      have e2 : zs.toArray[i]! = zs[i] := by rw [getElem!_pos zs.toArray i (by simp; omega)]; simp
      by_cases hk : zs[i + 1] = zs[i]
      · rw [hk]; exact ih (by omega) (List.getElem_mem _)
      · refine List.mem_map.2 ⟨i + 1, List.mem_filter.2 ⟨List.mem_range.2 hi, Lib.keeps_pos ?_⟩, e1⟩
        show zs.toArray[i + 1]! ≠ zs.toArray[i]!
        rw [e1, e2]
        exact hk
theorem compact_len (zs : List Int) : (Lib.compact zs).length ≤ zs.length := by
  unfold Lib.compact Lib.compactUpTo
  rw [List.length_map]
  have := List.length_filter_le (Lib.keeps zs.toArray) (List.range zs.length)
  rw [List.length_range] at this
  exact this
/-- sorted, each once -/
def srtd (zs : List Int) : List Int := zs.mergeSort fun x y => decide (x ≤ y)
theorem srtd_inc (zs : List Int) : (srtd zs).Pairwise (· ≤ ·) := by
  have h := List.pairwise_mergeSort (le := fun x y : Int => decide (x ≤ y)) (fun a b c h1 h2 => by simp at *; omega) (fun a b => by simp; omega) zs
  exact h.imp (by intro a b h; simpa using h)
theorem srtd_mem (zs : List Int) (z : Int) : z ∈ srtd zs ↔ z ∈ zs := List.mem_mergeSort
theorem srtd_len (zs : List Int) : (srtd zs).length = zs.length := List.length_mergeSort _
theorem once_inc (zs : List Int) : (Lib.compact (srtd zs)).Pairwise (· < ·) ∧ ∀ z, z ∈ Lib.compact (srtd zs) ↔ z ∈ zs :=
  ⟨compact_inc (srtd_inc zs), fun z => by rw [compact_mem, srtd_mem]⟩

/-- how far the norms of two points are apart -/
def dst (ps : List (Int × Int)) (i j : Nat) : Nat := (detI (nA (pA ps i) (pB ps i)) (nB (pA ps i) (pB ps i)) (nA (pA ps j) (pB ps j)) (nB (pA ps j) (pB ps j))).natAbs
/-- what is found with the point j and those ahead, up to k -/
def fRow (ps : List (Int × Int)) (j k : Nat) : List Int := (List.range k).filterMap fun i => if 1 < dst ps i j then some (dst ps i j : Int) else none
def fAll (ps : List (Int × Int)) (m : Nat) : List Int := (List.range m).flatMap fun j => fRow ps j j
theorem fRow_succ (ps : List (Int × Int)) (j k : Nat) : fRow ps j (k + 1) = fRow ps j k ++ (if 1 < dst ps k j then [(dst ps k j : Int)] else []) := by
  unfold fRow
  rw [List.range_succ, List.filterMap_append]
  congr 1
  by_cases h : 1 < dst ps k j
  · simp [h]
  · simp [h]
theorem fAll_succ (ps : List (Int × Int)) (m : Nat) : fAll ps (m + 1) = fAll ps m ++ fRow ps m m := by simp [fAll, List.range_succ]
theorem fRow_mem (ps : List (Int × Int)) (j k : Nat) (z : Int) : z ∈ fRow ps j k ↔ ∃ i, i < k ∧ 1 < dst ps i j ∧ (dst ps i j : Int) = z := by
  unfold fRow
  rw [List.mem_filterMap]
  constructor
  · rintro ⟨i, hi, h⟩
    refine ⟨i, List.mem_range.1 hi, ?_⟩
    by_cases hd : 1 < dst ps i j
    · rw [if_pos hd] at h; exact ⟨hd, by simpa using h⟩
    · rw [if_neg hd] at h; cases h
  · rintro ⟨i, hi, hd, rfl⟩
    exact ⟨i, List.mem_range.2 hi, by rw [if_pos hd]⟩
theorem fAll_mem (ps : List (Int × Int)) (m : Nat) (z : Int) : z ∈ fAll ps m ↔ ∃ i j, i < j ∧ j < m ∧ 1 < dst ps i j ∧ (dst ps i j : Int) = z := by
  unfold fAll
  rw [List.mem_flatMap]
  constructor
  · rintro ⟨j, hj, h⟩
    obtain ⟨i, h1, h2, h3⟩ := (fRow_mem ps j j z).1 h
    exact ⟨i, j, h1, List.mem_range.1 hj, h2, h3⟩
  · rintro ⟨i, j, h1, h2, h3, h4⟩
    exact ⟨j, List.mem_range.2 h2, (fRow_mem ps j j z).2 ⟨i, h1, h3, h4⟩⟩
theorem fRow_len (ps : List (Int × Int)) (j k : Nat) : (fRow ps j k).length ≤ k := by
  unfold fRow
  have := List.length_filterMap_le (fun i => if 1 < dst ps i j then some (dst ps i j : Int) else none) (List.range k)
  rw [List.length_range] at this
  exact this
theorem fAll_len (ps : List (Int × Int)) : ∀ m, m ≤ 15 → (fAll ps m).length ≤ 15 * m
  | 0, _ => by simp [fAll]
  | m + 1, h => by
    rw [fAll_succ, List.length_append]
    have := fAll_len ps m (by omega)
    have := fRow_len ps m m
    omega
/-- what is asked of the divisors -/
def DivL (ps : List (Int × Int)) (zs : List Int) : Prop := zs.Pairwise (· < ·) ∧ ∀ z, z ∈ zs ↔ ∃ i j, i < j ∧ j < ps.length ∧ 1 < dst ps i j ∧ (dst ps i j : Int) = z
theorem DivL.same {ps : List (Int × Int)} {xs ys : List Int} (h : DivL ps xs) (k : DivL ps ys) : xs = ys := inc_ext _ _ h.1 k.1 fun z => by rw [h.2, k.2]
end Go.Proofs.Ytapodkjmhenceaa
