/- The document's Pack (swageref16), step by step: its places and its registers' number. Plain mathematics. -/
import Derived.Test.YtheakienigmkhaaOrM4
namespace Go.Proofs.Ytheakienigmkhaa
open Go.RowKit

/-- the places ahead of the k-th instruction -/
def plL (p : Pg) : Nat → List (Int × Int)
  | 0 => plL0 p
  | k + 1 => if setA p k = -1 then plL p k else plStep p k (plL p k)
/-- how many registers are given by then -/
def plR (p : Pg) : Nat → Int
  | 0 => plR0 p
  | k + 1 => if setA p k = -1 then plR p k else max (plR p k) ((seatOf (psAt p k).un k : Nat) + 1)
theorem plL_idle {p : Pg} {k : Nat} (h : setA p k = -1) : plL p (k + 1) = plL p k := by simp only [plL]; exact if_pos h
theorem plL_need {p : Pg} {k : Nat} (h : setA p k ≠ -1) : plL p (k + 1) = plStep p k (plL p k) := by simp only [plL]; exact if_neg h
theorem plR_idle {p : Pg} {k : Nat} (h : setA p k = -1) : plR p (k + 1) = plR p k := by simp only [plR]; exact if_pos h
theorem plR_need {p : Pg} {k : Nat} (h : setA p k ≠ -1) : plR p (k + 1) = max (plR p k) ((seatOf (psAt p k).un k : Nat) + 1) := by simp only [plR]; exact if_neg h
theorem pl_inv {p : Pg} (hr : rightB p = true) : ∀ k, k ≤ p.code.length → RInv p k (plL p k) (plR p k)
  | 0, _ => RInv.start hr
  | k + 1, h => by
    have ih := pl_inv hr k (by omega)
    by_cases hn : setA p k = -1
    · rw [plL_idle hn, plR_idle hn]; exact ih.idle (by omega) hn
    · rw [plL_need hn, plR_need hn]; exact ih.step hr (by omega) hn
theorem plR_mono (p : Pg) (k : Nat) : ∀ d, plR p k ≤ plR p (k + d)
  | 0 => Int.le_refl _
  | d + 1 => by
    have ih := plR_mono p k d
    show plR p k ≤ plR p (k + d + 1)
    by_cases hn : setA p (k + d) = -1
    · rw [plR_idle hn]; exact ih
    · rw [plR_need hn]; omega
theorem plR_regs {p : Pg} (hr : rightB p = true) : plR p p.code.length = (packP p).regs :=
  RInv.regs hr (pl_inv hr _ (Nat.le_refl _)) (fun u hu => ⟨_, _, pl_inv hr u hu, by
    obtain ⟨d, hd⟩ : ∃ d, p.code.length = u + d := ⟨p.code.length - u, by omega⟩
    rw [hd]; exact plR_mono p u d⟩)
theorem plL_len (p : Pg) : ∀ k, (plL p k).length ≤ p.ins.toNat + 1 + k
  | 0 => by
    have h : (begL p p.ins.toNat).length ≤ p.ins.toNat := by
      unfold begL
      rw [List.length_map]
      have := List.length_filter_le (fun r : Nat => decide (0 ≤ untF p (-1 - r))) (List.range p.ins.toNat)
      rw [List.length_range] at this
      exact this
    show (plL0 p).length ≤ _
    unfold plL0
    rw [List.length_append]
    split <;> simp <;> omega
  | k + 1 => by
    have ih := plL_len p k
    by_cases hn : setA p k = -1
    · rw [plL_idle hn]; omega
    · rw [plL_need hn]
      unfold plStep
      rw [List.length_append]
      have := List.length_filter_le (fun x : Int × Int => decide (untF p x.1 ≠ k)) (plL p k)
      simp only [List.length_cons, List.length_nil]
      omega
/-- what is asked stands where the seats say -/
theorem pl_where {p : Pg} (hr : rightB p = true) {k : Nat} (hk : k < p.code.length) (hn : setA p k ≠ -1) {r : Int} (ha : r ∈ asksL (cd p.code k)) : whereF (plL p k) (heldF p k r) = ot (psAt p k).of r.toNat := by
  have h := ask_toNat hr hk ha
  have e : ((r.toNat : Nat) : Int) = r := by omega
  have hu := uAt_ask hk hn ha
  have h1 := (pl_inv hr k (by omega)).held r.toNat (by omega) (by rw [e]; omega)
  rw [e] at h1
  exact whereF_of (pl_inv hr k (by omega)) h1
theorem pl_outs {p : Pg} (hr : rightB p = true) {r : Int} (ha : r ∈ p.outs) : whereF (plL p p.code.length) (heldF p p.code.length r) = ot (psAt p p.code.length).of r.toNat := by
  have h := out_toNat hr ha
  have e : ((r.toNat : Nat) : Int) = r := by omega
  have h1 := (pl_inv hr _ (Nat.le_refl _)).held r.toNat (by omega) (by rw [e, uAt_end, if_pos ha]; omega)
  rw [e] at h1
  exact whereF_of (pl_inv hr _ (Nat.le_refl _)) h1
/-- the places that are left over -/
def plK (p : Pg) (k : Nat) : List (Int × Int) := (plL p k).filter (fun x => decide (untF p x.1 ≠ k))
/-- the seat is the first one that is free -/
theorem pl_free {p : Pg} (hr : rightB p = true) {k : Nat} (hk : k < p.code.length) (hn : setA p k ≠ -1) :
    (∀ x ∈ plK p k, x.2 ≠ ((seatOf (psAt p k).un k : Nat) : Int)) ∧ ∀ R : Nat, R < seatOf (psAt p k).un k → ∃ x ∈ plK p k, x.2 = R := by
  have hi := psAt_inv hr k (by omega)
  obtain ⟨t1, t2, t3⟩ := hi.seat hr hk hn
  have h := pl_inv hr k (by omega)
  constructor
  · intro x hx e
    obtain ⟨h1, h2⟩ := List.mem_filter.1 hx
    have h3 := h.unt x h1
    rw [e, Int.toNat_natCast] at h3
    have h4 : untF p x.1 ≠ k := by simpa using h2
    omega
  · intro R hR
    have h1 := t3 R hR
    obtain ⟨x, x1, x2⟩ := h.all R (by omega) (by omega)
    refine ⟨x, List.mem_filter.2 ⟨x1, ?_⟩, x2⟩
    have h3 := (h.unt x x1).1
    rw [x2, Int.toNat_natCast] at h3
    simp only [decide_eq_true_eq]
    omega
/-- whether one of the first so many stands there -/
def takenB (L : List (Int × Int)) (r : Int) (a : Nat) : Bool := (L.take a).any (fun x => decide (x.2 = r))
theorem takenB_zero (L : List (Int × Int)) (r : Int) : takenB L r 0 = false := rfl
theorem takenB_succ {L : List (Int × Int)} {r : Int} {a : Nat} (h : a < L.length) : takenB L r (a + 1) = (takenB L r a || decide ((L.getD a (0, 0)).2 = r)) := by
  unfold takenB
  rw [List.take_succ_eq_append_getElem h, List.any_append, List.getD_eq_getElem?_getD, List.getElem?_eq_getElem h]
  simp
theorem taken_below {p : Pg} (hr : rightB p = true) {k : Nat} (hk : k < p.code.length) (hn : setA p k ≠ -1) {r : Nat} (h : r ≤ seatOf (psAt p k).un k) : takenB (plK p k) r (plK p k).length = decide (r < seatOf (psAt p k).un k) := by
  obtain ⟨h1, h2⟩ := pl_free hr hk hn
  unfold takenB
  rw [List.take_length]
  by_cases hlt : r < seatOf (psAt p k).un k
  · rw [decide_eq_true hlt, List.any_eq_true]
    obtain ⟨x, x1, x2⟩ := h2 r hlt
    exact ⟨x, x1, by simpa using x2⟩
  · rw [decide_eq_false hlt, List.any_eq_false]
    intro x hx
    have e : r = seatOf (psAt p k).un k := by omega
    have := h1 x hx
    rw [e]
    simpa using this
/-- the first so many that are left over -/
def keptP (p : Pg) (k : Nat) (L : List (Int × Int)) (a : Nat) : List (Int × Int) := (L.take a).filter (fun x => decide (untF p x.1 ≠ k))
theorem keptP_succ {p : Pg} {k : Nat} {L : List (Int × Int)} {a : Nat} (h : a < L.length) : keptP p k L (a + 1) = if untF p (L.getD a (0, 0)).1 ≠ k then keptP p k L a ++ [L.getD a (0, 0)] else keptP p k L a := by
  unfold keptP
  have e : L.getD a (0, 0) = L[a] := by rw [List.getD_eq_getElem?_getD, List.getElem?_eq_getElem h]; rfl
  rw [List.take_succ_eq_append_getElem h, List.filter_append, e]
  by_cases q : untF p L[a].1 = k <;> simp [q]
theorem keptP_len (p : Pg) (k : Nat) (L : List (Int × Int)) (a : Nat) : (keptP p k L a).length ≤ L.length := by
  unfold keptP
  refine Nat.le_trans (List.length_filter_le _ _) ?_
  rw [List.length_take]; omega
theorem keptP_all (p : Pg) (k : Nat) : keptP p k (plL p k) (plL p k).length = plK p k := by unfold keptP plK; rw [List.take_length]
theorem plStep_eq (p : Pg) (k : Nat) : plStep p k (plL p k) = plK p k ++ [((k : Int), ((seatOf (psAt p k).un k : Nat) : Int))] := rfl
theorem pkOuts_take {p : Pg} {a : Nat} (h : a < p.outs.length) : (pkOuts p).take (a + 1) = (pkOuts p).take a ++ [ot (psAt p p.code.length).of (ot p.outs a).toNat] := by
  have hl : a < (pkOuts p).length := by unfold pkOuts; rw [List.length_map]; exact h
  rw [List.take_succ_eq_append_getElem hl]
  congr 2
  refine Eq.trans (List.getElem_map _) ?_
  have e : ot p.outs a = p.outs[a] := by unfold ot; simp [h]
  rw [e]
/-- all values of the places are small numbers -/
theorem pl_small {p : Pg} (hr : rightB p = true) {k : Nat} (hk : k ≤ p.code.length) {x : Int × Int} (h : x ∈ plL p k) : -100000 ≤ x.1 ∧ x.1 < k ∧ 0 ≤ x.2 ∧ x.2 < 128 := by
  have hi := pl_inv hr k hk
  obtain ⟨R, r1, r2, _⟩ := hi.reg x h
  have hp := right_parts hr
  have hu := hi.unt x h
  have hl := hi.lt x h
  have hw : ∀ u : Nat, AskAt p x.1 u → -100000 ≤ x.1 := fun u hu => by
    obtain ⟨a, a0, a3, a1, _⟩ := asks_pos hr hu
    rcases heldF_who p a u with ⟨j, h1, _⟩ | ⟨h1, _⟩ | ⟨h1, _⟩ <;> omega
  refine ⟨?_, hl, by omega, by omega⟩
  rcases untF_spec p x.1 with ⟨h1, _⟩ | ⟨u, _, h2, _⟩
  · omega
  · exact hw u h2
theorem plbeg_len (p : Pg) (r : Nat) : (begL p r).length ≤ r := by
  unfold begL
  rw [List.length_map]
  have := List.length_filter_le (fun r : Nat => decide (0 ≤ untF p (-1 - r))) (List.range r)
  rw [List.length_range] at this
  exact this
theorem psAt_code_le (p : Pg) : ∀ k, (psAt p k).code.length ≤ k
  | 0 => Nat.le_refl _
  | k + 1 => by
    have ih := psAt_code_le p k
    by_cases hn : setA p k = -1
    · rw [psAt_idle hn]; omega
    · rw [psAt_need hn]
      simp only [List.length_append, List.length_cons, List.length_nil]
      omega
end Go.Proofs.Ytheakienigmkhaa
