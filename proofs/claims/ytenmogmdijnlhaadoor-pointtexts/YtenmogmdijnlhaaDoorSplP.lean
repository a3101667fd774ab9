/- Texts cut at a byte, and put together. Nothing of the program. -/
import Derived.Test.YtenmogmdijnlhaaDoorSpl
namespace Go.Proofs.YtenmogmdijnlhaaDoor
open Go.RowKit Go.Shelf

/-- how many bytes pieces have, each with the byte behind it -/
def totP (ps : List ByteArray) : Nat := (ps.map fun p => p.size + 1).sum
theorem tot_appP (ps : List ByteArray) (x : ByteArray) : totP (ps ++ [x]) = totP ps + x.size + 1 := by simp [totP]; omega
theorem spl_totP (c : UInt8) : ∀ l : List UInt8, ((spl c l).map fun p => p.length + 1).sum = l.length + 1 ∧ spl c l ≠ []
  | [] => ⟨rfl, by simp [spl]⟩
  | b :: l => by
    have h := spl_totP c l
    rw [spl]
    split
    · refine ⟨?_, by simp⟩
      rw [List.map_cons, List.sum_cons, h.1]; simp; omega
    · cases hs : spl c l with
      | nil => exact absurd hs h.2
      | cons q qs =>
        refine ⟨?_, by simp⟩
        have h1 := h.1
        rw [hs, List.map_cons, List.sum_cons] at h1
        simp only [List.map_cons, List.sum_cons, List.length_cons]
        omega
theorem tot_splBP (c : UInt8) (s : ByteArray) : totP (splB c s) = s.size + 1 := by
  unfold totP splB
  rw [List.map_map, ← bl_len, ← (spl_totP c (bl s)).1]
  congr 1
theorem spl_fewP (c : UInt8) (s : ByteArray) : (splB c s).length ≤ s.size + 1 := by
  rw [← tot_splBP c s]
  unfold totP
  generalize splB c s = ps
  induction ps with
  | nil => simp
  | cons p ps ih => simp only [List.length_cons, List.map_cons, List.sum_cons]; omega
theorem tot_appendP (ps qs : List ByteArray) : totP (ps ++ qs) = totP ps + totP qs := by simp [totP]
theorem tot_preP {ps qs : List ByteArray} (h : ps <+: qs) : totP ps ≤ totP qs := by
  obtain ⟨t, rfl⟩ := h
  rw [tot_appendP]; omega
theorem join_splP (c : UInt8) : ∀ l : List UInt8, Lib.join (spl c l) [c] = l
  | [] => rfl
  | b :: l => by
    have h := join_splP c l
    have hne := (spl_totP c l).2
    rw [spl]
    cases hs : spl c l with
    | nil => exact absurd hs hne
    | cons q qs =>
      rw [hs] at h
      split
      · rename_i hb
        subst hb
        rw [show Lib.join ([] :: q :: qs) [b] = b :: Lib.join (q :: qs) [b] from by simp [Lib.join, List.intercalate, List.intersperse], h]
      · cases qs with
        | nil => simp only [Lib.join, List.intercalate, List.intersperse] at h ⊢; simpa using h
        | cons r rs => simp only [Lib.join, List.intercalate, List.intersperse] at h ⊢; simp at h ⊢; exact h
theorem map_splP (s : ByteArray) : (splB 32 s).map bl = spl 32 (bl s) := by
  unfold splB
  rw [List.map_map]
  conv => rhs; rw [← List.map_id (spl 32 (bl s))]
  apply List.map_congr_left
  intro p _
  exact bl_mkB p
theorem spl_joinP {c : UInt8} : ∀ {ps : List (List UInt8)}, ps ≠ [] → (∀ p ∈ ps, c ∉ p) → spl c (Lib.join ps [c]) = ps
  | [], h, _ => absurd rfl h
  | [p], _, h => by rw [Lib.join_one]; exact spl_none (h p (by simp))
  | p :: q :: ps, _, h => by
    have ih := spl_joinP (c := c) (ps := q :: ps) (by simp) (fun x hx => h x (by simp [hx]))
    rw [show Lib.join (p :: q :: ps) [c] = p ++ c :: Lib.join (q :: ps) [c] from by simp [Lib.join, List.intercalate, List.intersperse], spl_at (h p (by simp)), ih]
end Go.Proofs.YtenmogmdijnlhaaDoor
