/- limb.timesAnd makes of a list that is its own the number times c, and d; limb.MulSmall. -/
import Derived.Test.YtmeckembnglhiaaDivOwn
namespace Go.Proofs.Ytmeckembnglhiaa
open Go.RowKit

/-- a product's state behind k limbs -/
structure TimesAt (xs : List Nat) (c d k q : Nat) (acc : List Nat) : Prop where
  len : acc.length = k
  ok : Ok acc
  q1 : q < BB
  sum : val acc + BB ^ k * q = c * val (xs.take k) + d

theorem TimesAt.zero (xs : List Nat) (c d : Nat) (hd : d < BB) : TimesAt xs c d 0 d [] := ⟨rfl, Ok.nil, hd, by simp [val]⟩

theorem TimesAt.step {xs : List Nat} {c d k q : Nat} {acc : List Nat} (h : TimesAt xs c d k q acc) (hx : lm xs k < BB) (hc : c < BB) :
    TimesAt xs c d (k + 1) ((q + lm xs k * c) / BB) (acc ++ [(q + lm xs k * c) % BB]) := by
  have hq := h.q1
  have hm := mul_bound _ _ hx hc
  refine ⟨by simp [h.len], h.ok.append (Ok.cons (Nat.mod_lt _ BB_pos) Ok.nil), ?_, ?_⟩
  · rw [Nat.div_lt_iff_lt_mul BB_pos]; unfold BB at *; omega
  · rw [take_succ_any, val_append, h.len, Nat.pow_succ]
    simp only [val, Nat.mul_zero, Nat.add_zero]
    have hs := h.sum
    have e : BB ^ k * ((q + lm xs k * c) % BB) + BB ^ k * BB * ((q + lm xs k * c) / BB) = BB ^ k * (q + lm xs k * c) := by
      rw [Nat.mul_assoc, ← Nat.mul_add, Nat.mod_add_div]
    have e2 : BB ^ k * (q + lm xs k * c) = BB ^ k * q + BB ^ k * (lm xs k * c) := Nat.mul_add _ _ _
    have e3 : c * (val (xs.take k) + BB ^ k * lm xs k) = c * val (xs.take k) + BB ^ k * (lm xs k * c) := by
      rw [Nat.mul_add, Nat.mul_left_comm, Nat.mul_comm c (lm xs k)]
    omega

theorem drop_set (acc xs : List Nat) (k y : Nat) (hl : acc.length = k) (hk : k < xs.length) : (acc ++ xs.drop k).set k y = (acc ++ [y]) ++ xs.drop (k + 1) := by
  rw [List.set_append_right _ _ (by omega), hl, Nat.sub_self, List.drop_eq_getElem_cons hk, List.set_cons_zero, List.append_assoc]
  rfl

theorem lm_append_right (xs ys : List Nat) (i : Nat) (h : xs.length ≤ i) : lm (xs ++ ys) i = lm ys (i - xs.length) := by
  simp [lm, List.getElem?_append_right h]
theorem lm_drop (xs : List Nat) (k i : Nat) : lm (xs.drop k) i = lm xs (k + i) := by simp [lm, List.getElem?_drop]

theorem times_next {w wr : World} {base g c d k q cap : Nat} {xs acc : List Nat} {s : Int} (hat : TimesAt xs c d k q acc) (hx : Ok xs) (hc : c < BB) (hk : k < xs.length)
    (hrow : RowC wr base g xs.length cap (acc ++ xs.drop k)) (hbel : Below base w wr ∧ w.grownBy wr (some g)) (hs : s = ((q + lm xs k * c : Nat) : Int)) :
    ∃ (k' q' : Nat) (acc' : List Nat), k' ≤ xs.length ∧ Value.int .i64 (↑k + 1) = .int .i64 k' ∧ Value.int .u64 (s / 4294967296) = .int .u64 q' ∧ TimesAt xs c d k' q' acc' ∧
      RowC (wr.setCell ⟨g, k, none⟩ (.int .u32 (s % 4294967296))) base g xs.length cap (acc' ++ xs.drop k') ∧ Below base w (wr.setCell ⟨g, k, none⟩ (.int .u32 (s % 4294967296))) ∧ w.grownBy (wr.setCell ⟨g, k, none⟩ (.int .u32 (s % 4294967296))) (some g) := by
  have e1 : s / 4294967296 = (((q + lm xs k * c) / BB : Nat) : Int) := by subst hs; unfold BB; omega
  have e2 : s % 4294967296 = (((q + lm xs k * c) % BB : Nat) : Int) := by subst hs; unfold BB; omega
  refine ⟨k + 1, _, _, hk, by go_num, by rw [e1], hat.step (hx.at k) hc, ?_, hbel.1.setCell hrow.ge _, gb_set hbel.2 _ _⟩
  rw [e2]
  have := hrow.set k ((q + lm xs k * c) % BB)
  rw [drop_set acc xs k _ hat.len hk] at this
  exact this

theorem times_end {xs acc : List Nat} {c d q : Nat} (hat : TimesAt xs c d xs.length q acc) : val (acc ++ [q]) = c * val xs + d ∧ Ok (acc ++ [q]) := by
  refine ⟨?_, hat.ok.append (Ok.cons hat.q1 Ok.nil)⟩
  have := hat.sum
  rw [List.take_length] at this
  rw [val_append, hat.len]; simp only [val, Nat.mul_zero, Nat.add_zero]; exact this


end Go.Proofs.Ytmeckembnglhiaa
