/- The document's lives and places (layer 16), by definition, and what they have to do with the seats. Plain mathematics. -/
import Derived.Test.YtheakienigmkhaaOrM3
namespace Go.Proofs.Ytheakienigmkhaa
open Go.RowKit

/-- which value stands in a register ahead of the k-th instruction -/
def heldF (p : Pg) : Nat → Int → Int
  | 0, r => if r < p.ins then -1 - r else -1000
  | k + 1, r => if setA p k ≠ -1 ∧ (cd p.code k).to = r then (k : Int) else heldF p k r
/-- the last one of the first m that asks a value -/
def lastF (p : Pg) (v : Int) : Nat → Int
  | 0 => -2000
  | k + 1 => if setA p k ≠ -1 ∧ ∃ a ∈ asksL (cd p.code k), heldF p k a = v then (k : Int) else lastF p v k
def untF (p : Pg) (v : Int) : Int := if ∃ o ∈ p.outs, heldF p p.code.length o = v then (p.code.length : Int) else lastF p v p.code.length
/-- a value is asked there -/
def AskAt (p : Pg) (v : Int) (j : Nat) : Prop := (j = p.code.length ∧ ∃ o ∈ p.outs, heldF p j o = v) ∨ (j < p.code.length ∧ setA p j ≠ -1 ∧ ∃ a ∈ asksL (cd p.code j), heldF p j a = v)
theorem lastF_spec (p : Pg) (v : Int) : ∀ m, m ≤ p.code.length → (lastF p v m = -2000 ∧ ∀ j, j < m → ¬ AskAt p v j) ∨ (∃ u : Nat, lastF p v m = u ∧ u < m ∧ AskAt p v u ∧ ∀ j, u < j → j < m → ¬ AskAt p v j)
  | 0, _ => .inl ⟨rfl, fun j h => by omega⟩
  | m + 1, hm => by
    have ih := lastF_spec p v m (by omega)
    simp only [lastF]
    by_cases h : setA p m ≠ -1 ∧ ∃ a ∈ asksL (cd p.code m), heldF p m a = v
    · rw [if_pos h]
      exact .inr ⟨m, rfl, by omega, .inr ⟨by omega, h⟩, fun j h1 h2 => by omega⟩
    · rw [if_neg h]
      have hno : ¬ AskAt p v m := fun q => by
        rcases q with ⟨e, _⟩ | ⟨_, q⟩
        · omega
        · exact h q
      rcases ih with ⟨h1, h2⟩ | ⟨u, h1, h2, h3, h4⟩
      · refine .inl ⟨h1, fun j hj => ?_⟩
        by_cases e : j = m
        · subst e; exact hno
        · exact h2 j (by omega)
      · refine .inr ⟨u, h1, by omega, h3, fun j h5 h6 => ?_⟩
        by_cases e : j = m
        · subst e; exact hno
        · exact h4 j h5 (by omega)
theorem askAt_le {p : Pg} {v : Int} {j : Nat} (h : AskAt p v j) : j ≤ p.code.length := by rcases h with ⟨e, _⟩ | ⟨e, _⟩ <;> omega
theorem untF_spec (p : Pg) (v : Int) : (untF p v = -2000 ∧ ∀ j, ¬ AskAt p v j) ∨ (∃ u : Nat, untF p v = u ∧ AskAt p v u ∧ ∀ j, u < j → ¬ AskAt p v j) := by
  unfold untF
  by_cases h : ∃ o ∈ p.outs, heldF p p.code.length o = v
  · rw [if_pos h]
    exact .inr ⟨_, rfl, .inl ⟨rfl, h⟩, fun j h1 h2 => by have := askAt_le h2; omega⟩
  · rw [if_neg h]
    have hno : ¬ AskAt p v p.code.length := fun q => by
      rcases q with ⟨_, q⟩ | ⟨e, _⟩
      · exact h q
      · omega
    rcases lastF_spec p v p.code.length (Nat.le_refl _) with ⟨h1, h2⟩ | ⟨u, h1, h2, h3, h4⟩
    · refine .inl ⟨h1, fun j hj => ?_⟩
      by_cases e : j = p.code.length
      · subst e; exact hno hj
      · exact h2 j (by have := askAt_le hj; omega) hj
    · refine .inr ⟨u, h1, h3, fun j h5 h6 => ?_⟩
      by_cases e : j = p.code.length
      · subst e; exact hno h6
      · exact h4 j h5 (by have := askAt_le h6; omega) h6
theorem untF_eq {p : Pg} {v : Int} {u : Nat} (h : AskAt p v u) (hl : ∀ j, AskAt p v j → j ≤ u) : untF p v = u := by
  rcases untF_spec p v with ⟨_, h2⟩ | ⟨u', h1, h2, h3⟩
  · exact absurd h (h2 u)
  · have a := hl u' h2
    have b : ¬ u' < u := fun q => h3 u q h
    rw [h1]; omega
theorem untF_none {p : Pg} {v : Int} (h : ∀ j, ¬ AskAt p v j) : untF p v = -2000 := by
  rcases untF_spec p v with ⟨h1, _⟩ | ⟨u, _, h2, _⟩
  · exact h1
  · exact absurd h2 (h u)

/-! which value stands where -/
theorem heldF_lt {p : Pg} (k : Nat) (r : Int) (h0 : 0 ≤ r) : heldF p k r < k := by
  induction k with
  | zero => simp only [heldF]; split <;> omega
  | succ k ih => simp only [heldF]; split <;> omega
theorem heldF_set {p : Pg} {k : Nat} (hn : setA p k ≠ -1) : heldF p (k + 1) (cd p.code k).to = k := by simp only [heldF]; exact if_pos ⟨hn, trivial⟩
theorem heldF_other {p : Pg} {k : Nat} {r : Int} (h : setA p k = -1 ∨ (cd p.code k).to ≠ r) : heldF p (k + 1) r = heldF p k r := by
  simp only [heldF]; rw [if_neg (fun q => h.elim q.1 (fun e => e q.2))]
/-- a value that was there already is there already -/
theorem heldF_back (p : Pg) (v r : Int) (k : Nat) (hv : v < k) : ∀ d, heldF p (k + d) r = v → heldF p k r = v
  | 0, h => h
  | d + 1, h => by
    refine heldF_back p v r k hv d ?_
    have h2 : heldF p (k + d + 1) r = v := h
    simp only [heldF] at h2
    split at h2
    · omega
    · exact h2
theorem heldF_back' {p : Pg} {v r : Int} {k j : Nat} (hv : v < k) (hj : k ≤ j) (h : heldF p j r = v) : heldF p k r = v := by
  obtain ⟨d, rfl⟩ : ∃ d, j = k + d := ⟨j - k, by omega⟩
  exact heldF_back p v r k hv d h
/-- whose value it is -/
theorem heldF_who (p : Pg) (r : Int) : ∀ k, (∃ j : Nat, heldF p k r = j ∧ j < k ∧ setA p j ≠ -1 ∧ (cd p.code j).to = r) ∨ (heldF p k r = -1 - r ∧ r < p.ins) ∨ (heldF p k r = -1000 ∧ p.ins ≤ r)
  | 0 => by
    right
    simp only [heldF]
    by_cases h : r < p.ins
    · rw [if_pos h]; exact .inl ⟨rfl, h⟩
    · rw [if_neg h]; exact .inr ⟨rfl, by omega⟩
  | k + 1 => by
    simp only [heldF]
    by_cases h : setA p k ≠ -1 ∧ (cd p.code k).to = r
    · rw [if_pos h]; exact .inl ⟨k, rfl, by omega, h.1, h.2⟩
    · rw [if_neg h]
      rcases heldF_who p r k with ⟨j, h1, h2, h3⟩ | h2
      · exact .inl ⟨j, h1, by omega, h3⟩
      · exact .inr h2
/-- no two registers hold one value, but the 0 of those that nothing sets -/
theorem heldF_inj {p : Pg} (hr : rightB p = true) {j k : Nat} {a r : Int} (ha : 0 ≤ a) (hb : 0 ≤ r) (h : heldF p j a = heldF p k r) (hv : heldF p k r ≠ -1000) : a = r := by
  have hp := right_parts hr
  rcases heldF_who p a j with ⟨j1, h1, _, _, h4⟩ | ⟨h1, h2⟩ | ⟨h1, h2⟩ <;> rcases heldF_who p r k with ⟨j2, g1, _, _, g4⟩ | ⟨g1, g2⟩ | ⟨g1, g2⟩
  · have e : j1 = j2 := by omega
    subst e
    rw [← h4, ← g4]
  all_goals omega
theorem askAt_of {p : Pg} {k : Nat} {r : Int} (hk : k ≤ p.code.length) : ∀ d, k + d = p.code.length → uAt p k r ≠ -1 → ∃ u : Nat, uAt p k r = u ∧ k ≤ u ∧ AskAt p (heldF p k r) u := by
  intro d
  induction d generalizing k with
  | zero =>
    intro hd hu
    have e : k = p.code.length := by omega
    subst e
    rw [uAt_end] at hu ⊢
    by_cases h : r ∈ p.outs
    · rw [if_pos h]
      exact ⟨_, rfl, Nat.le_refl _, .inl ⟨rfl, r, h, rfl⟩⟩
    · rw [if_neg h] at hu; exact absurd rfl hu
  | succ d ih =>
    intro hd hu
    have hlt : k < p.code.length := by omega
    by_cases hn : setA p k = -1
    · rw [uAt_idle hlt hn] at hu ⊢
      obtain ⟨u, h1, h2, h3⟩ := ih (k := k + 1) (by omega) (by omega) hu
      rw [heldF_other (.inl hn)] at h3
      exact ⟨u, h1, by omega, h3⟩
    · by_cases hg : (k : Int) + 1 ≤ uAt p k r
      · obtain ⟨h4, h5⟩ := uAt_gt hlt hn hg
        obtain ⟨u, h1, h2, h3⟩ := ih (k := k + 1) (by omega) (by omega) (by omega)
        rw [heldF_other (.inr (Ne.symm h4))] at h3
        exact ⟨u, by omega, by omega, h3⟩
      · have hb := uAt_bound (p := p) (k := k) hk r
        have e : uAt p k r = k := by omega
        exact ⟨k, e, Nat.le_refl _, .inr ⟨hlt, hn, r, (uAt_eq hlt e).2, rfl⟩⟩
/-- whoever asks it is told of -/
theorem ask_le {p : Pg} {r : Int} (j : Nat) (hj : (j = p.code.length ∧ r ∈ p.outs) ∨ (j < p.code.length ∧ setA p j ≠ -1 ∧ r ∈ asksL (cd p.code j))) : ∀ d k, k + d = j → heldF p j r < k ∨ d = 0 → heldF p j r = heldF p k r → (j : Int) ≤ uAt p k r
  | 0, k, hd, _, _ => by
    have e : k = j := by omega
    subst e
    rcases hj with ⟨rfl, h⟩ | ⟨h1, h2, h3⟩
    · rw [uAt_end, if_pos h]; exact Int.le_refl _
    · exact uAt_ask h1 h2 h3
  | d + 1, k, hd, hv, he => by
    have hv' : heldF p j r < k := by rcases hv with h | h
                                     · exact h
                                     · omega
    have hjn : j ≤ p.code.length := by rcases hj with ⟨h, _⟩ | ⟨h, _⟩ <;> omega
    have hlt : k < p.code.length := by omega
    have e1 : heldF p (k + 1) r = heldF p j r := heldF_back' (v := heldF p j r) (by omega) (by omega) rfl
    have ih := ask_le j hj d (k + 1) (by omega) (.inl (by omega)) e1.symm
    by_cases hn : setA p k = -1
    · rw [uAt_idle hlt hn]; exact ih
    · have hto : r ≠ (cd p.code k).to := fun e => by
        rw [e, heldF_set hn] at e1
        rw [← e] at e1
        omega
      rw [uAt_other hlt hn hto (by omega)]
      exact ih
theorem asks_pos {p : Pg} (hr : rightB p = true) {v : Int} {j : Nat} (h : AskAt p v j) : ∃ a : Int, 0 ≤ a ∧ a < p.regs ∧ heldF p j a = v ∧ ((j = p.code.length ∧ a ∈ p.outs) ∨ (j < p.code.length ∧ setA p j ≠ -1 ∧ a ∈ asksL (cd p.code j))) := by
  rcases h with ⟨e, o, ho, hv⟩ | ⟨h1, h2, a, ha, hv⟩
  · have := out_toNat hr ho
    exact ⟨o, by omega, by omega, hv, .inl ⟨e, ho⟩⟩
  · have := ask_toNat hr h1 ha
    exact ⟨a, by omega, by omega, hv, .inr ⟨h1, h2, ha⟩⟩
/-- what is asked from its birth on -/
theorem untF_birth {p : Pg} (hr : rightB p = true) {k : Nat} {r : Int} (hk : k ≤ p.code.length) (h0 : 0 ≤ r) (hv : heldF p k r ≠ -1000) (hb : ∀ j a, 0 ≤ a → j < k → heldF p j a ≠ heldF p k r) : untF p (heldF p k r) = if uAt p k r = -1 then -2000 else uAt p k r := by
  have hle : ∀ j, AskAt p (heldF p k r) j → k ≤ j ∧ (j : Int) ≤ uAt p k r := fun j hj => by
    obtain ⟨a, a0, _, a1, a2⟩ := asks_pos hr hj
    have ha := heldF_inj hr a0 h0 a1 hv
    subst ha
    have hkj : k ≤ j := by
      false_or_by_contra
      exact hb j a h0 (by omega) a1
    exact ⟨hkj, ask_le j a2 (j - k) k (by omega) (.inl (by rw [a1]; exact heldF_lt k a h0)) a1⟩
  by_cases h : uAt p k r = -1
  · rw [if_pos h]
    exact untF_none (fun j hj => by have := hle j hj; omega)
  · rw [if_neg h]
    obtain ⟨u, h1, h2, h3⟩ := askAt_of hk (p.code.length - k) (by omega) h
    rw [h1]
    exact untF_eq h3 (fun j hj => by have := hle j hj; omega)
theorem untF_set {p : Pg} (hr : rightB p = true) {k : Nat} (hk : k < p.code.length) (hn : setA p k ≠ -1) : untF p k = setA p k := by
  have ht := to_toNat hr hk
  have h := untF_birth hr (k := k + 1) (r := (cd p.code k).to) (by omega) (by omega) (by rw [heldF_set hn]; omega) (fun j a ha hj e => by
    rw [heldF_set hn] at e
    have := heldF_lt (p := p) j a ha
    omega)
  rw [heldF_set hn] at h
  rw [h]
  exact if_neg hn
theorem untF_in {p : Pg} (hr : rightB p = true) {r : Nat} (h : (r : Int) < p.ins) : untF p (-1 - r) = if uAt p 0 r = -1 then -2000 else uAt p 0 r := by
  have hp := right_parts hr
  have e : heldF p 0 r = -1 - r := by simp only [heldF]; exact if_pos h
  rw [← e]
  exact untF_birth hr (Nat.zero_le _) (by omega) (by rw [e]; omega) (fun j a _ hj => by omega)
theorem untF_zero {p : Pg} (hr : rightB p = true) : untF p (-1000) = if ot (fst_ p) p.ins.toNat = -1 then -2000 else ot (fst_ p) p.ins.toNat := by
  have hp := right_parts hr
  have hz := fstL_zero p p.regs.toNat
  have e0 : ∀ r : Nat, p.ins.toNat ≤ r → heldF p 0 r = -1000 := fun r h => by simp only [heldF]; exact if_neg (by omega)
  have hle : ∀ j, AskAt p (-1000) j → (j : Int) ≤ ot (fst_ p) p.ins.toNat := fun j hj => by
    obtain ⟨a, a0, a3, a1, a2⟩ := asks_pos hr hj
    have h0 : heldF p 0 a = -1000 := heldF_back' (by omega) (Nat.zero_le _) a1
    have hge : p.ins ≤ a := by
      simp only [heldF] at h0
      split at h0 <;> omega
    have h1 := ask_le j a2 j 0 (by omega) (.inl (by rw [a1]; omega)) (by rw [a1, h0])
    have h2 := hz.2.1 a.toNat (by omega) (by omega)
    have e : ((a.toNat : Nat) : Int) = a := by omega
    rw [e] at h2
    exact Int.le_trans h1 h2
  have hz1 : -1 ≤ ot (fst_ p) p.ins.toNat := hz.1
  by_cases h : ot (fst_ p) p.ins.toNat = -1
  · rw [if_pos h]
    exact untF_none (fun j hj => by have := hle j hj; omega)
  · rw [if_neg h]
    obtain ⟨r, r1, r2, r3⟩ := hz.2.2 (show 0 ≤ ot (fst_ p) p.ins.toNat by omega)
    have r4 : uAt p 0 r = ot (fst_ p) p.ins.toNat := r3
    obtain ⟨u, h1, h2, h3⟩ := askAt_of (p := p) (k := 0) (r := (r : Int)) (Nat.zero_le _) p.code.length (by omega) (by omega)
    rw [e0 r r1] at h3
    rw [← r4, h1]
    exact untF_eq h3 (fun j hj => by have := hle j hj; omega)
theorem fst_in {p : Pg} {r : Nat} (hr : rightB p = true) (h : r < p.ins.toNat) : ot (fst_ p) r = uAt p 0 r := by
  have hp := right_parts hr
  unfold fst_; rw [fstL_in p r h, if_pos (by omega)]

/-! the places -/
def whereF (L : List (Int × Int)) (v : Int) : Int := ((L.find? (fun x => decide (x.1 = v))).map (·.2)).getD (-1)
structure RInv (p : Pg) (k : Nat) (L : List (Int × Int)) (m : Int) : Prop where
  reg : ∀ x ∈ L, ∃ R : Nat, R < p.regs.toNat ∧ x.2 = R ∧ x.2 < m
  unt : ∀ x ∈ L, untF p x.1 = ot (psAt p k).un x.2.toNat ∧ (k : Int) ≤ untF p x.1
  all : ∀ R : Nat, R < p.regs.toNat → (k : Int) ≤ ot (psAt p k).un R → ∃ x ∈ L, x.2 = R
  held : ∀ r : Nat, r < p.regs.toNat → uAt p k r ≠ -1 → (heldF p k r, ot (psAt p k).of r) ∈ L
  one : ∀ x ∈ L, ∀ y ∈ L, x.1 = y.1 → x = y
  lt : ∀ x ∈ L, x.1 < k
  zero : ∀ x ∈ L, x.1 = -1000 → x.2 = p.ins
  seats : ∀ R : Int, (R < m ↔ R < p.ins ∨ (R ≤ p.ins ∧ 0 ≤ untF p (-1000)) ∨ ∃ j, j < k ∧ setA p j ≠ -1 ∧ R ≤ (seatOf (psAt p j).un j : Nat))
theorem whereF_of {p : Pg} {k : Nat} {L : List (Int × Int)} {m : Int} (h : RInv p k L m) {v R : Int} (hx : (v, R) ∈ L) : whereF L v = R := by
  unfold whereF
  cases hf : L.find? (fun x => decide (x.1 = v)) with
  | none =>
    have := List.find?_eq_none.1 hf (v, R) hx
    simp at this
  | some y =>
    have h1 := List.mem_of_find?_eq_some hf
    have h2 := List.find?_some hf
    have h3 := h.one y h1 (v, R) hx (by simpa using h2)
    rw [h3]; rfl
/-- the places at the beginning, of the first n inputs -/
def begL (p : Pg) (n : Nat) : List (Int × Int) := ((List.range n).filter (fun r : Nat => decide (0 ≤ untF p (-1 - r)))).map (fun r : Nat => (-1 - (r : Int), (r : Int)))
theorem begL_succ (p : Pg) (n : Nat) : begL p (n + 1) = begL p n ++ (if 0 ≤ untF p (-1 - n) then [(-1 - (n : Int), (n : Int))] else []) := by
  unfold begL
  rw [List.range_succ, List.filter_append, List.map_append]
  congr 1
  by_cases h : 0 ≤ untF p (-1 - n) <;> simp [h]
def plL0 (p : Pg) : List (Int × Int) := begL p p.ins.toNat ++ (if 0 ≤ untF p (-1000) then [(-1000, p.ins)] else [])
def plR0 (p : Pg) : Int := if 0 ≤ untF p (-1000) then p.ins + 1 else p.ins
theorem mem_begL {p : Pg} {n : Nat} {x : Int × Int} : x ∈ begL p n ↔ ∃ r : Nat, r < n ∧ 0 ≤ untF p (-1 - r) ∧ x = (-1 - (r : Int), (r : Int)) := by
  unfold begL
  simp only [List.mem_map, List.mem_filter, List.mem_range, decide_eq_true_eq]
  constructor
  · rintro ⟨r, ⟨h1, h2⟩, rfl⟩; exact ⟨r, h1, h2, rfl⟩
  · rintro ⟨r, h1, h2, rfl⟩; exact ⟨r, ⟨h1, h2⟩, rfl⟩
theorem mem_plL0 {p : Pg} {x : Int × Int} : x ∈ plL0 p ↔ (∃ r : Nat, r < p.ins.toNat ∧ 0 ≤ untF p (-1 - r) ∧ x = (-1 - (r : Int), (r : Int))) ∨ (0 ≤ untF p (-1000) ∧ x = (-1000, p.ins)) := by
  unfold plL0
  rw [List.mem_append, mem_begL]
  by_cases h : 0 ≤ untF p (-1000) <;> simp [h]
theorem RInv.start {p : Pg} (hr : rightB p = true) : RInv p 0 (plL0 p) (plR0 p) := by
  have hp := right_parts hr
  have hz := fstL_zero p p.regs.toNat
  have hz1 : -1 ≤ ot (fst_ p) p.ins.toNat := hz.1
  have hu0 := untF_zero hr
  have hins : ((p.ins.toNat : Nat) : Int) = p.ins := by omega
  have hui : ∀ r : Nat, r < p.ins.toNat → untF p (-1 - r) = if uAt p 0 r = -1 then -2000 else uAt p 0 r := fun r h => untF_in hr (by omega)
  have hb0 : ∀ r : Int, uAt p 0 r = -1 ∨ (0 ≤ uAt p 0 r ∧ uAt p 0 r ≤ p.code.length) := fun r => uAt_bound (Nat.zero_le _) r
  have hreg0 : 0 ≤ untF p (-1000) → p.ins.toNat < p.regs.toNat := fun h => by
    rw [hu0] at h
    have hne : ot (fst_ p) p.ins.toNat ≠ -1 := fun e => by rw [if_pos e] at h; omega
    obtain ⟨r, r1, r2, _⟩ := hz.2.2 (show 0 ≤ ot (fst_ p) p.ins.toNat by omega)
    omega
  have hun : ∀ R, R < p.regs.toNat → ot (psAt p 0).un R = if R ≤ p.ins.toNat then ot (fst_ p) R else -1 := fun R h => ps0_un h
  have hof : ∀ r, r < p.regs.toNat → ot (psAt p 0).of r = (min r p.ins.toNat : Nat) := fun r h => ot_map_range h
  refine ⟨fun x hx => ?_, fun x hx => ?_, fun R hR hu => ?_, fun r hrr hu => ?_, fun x hx y hy e => ?_, fun x hx => ?_, fun x hx e => ?_, fun R => ?_⟩
  · rcases mem_plL0.1 hx with ⟨r, h1, h2, rfl⟩ | ⟨h1, rfl⟩
    · refine ⟨r, by omega, rfl, ?_⟩
      unfold plR0; dsimp only; split <;> omega
    · refine ⟨p.ins.toNat, hreg0 h1, by dsimp only; omega, ?_⟩
      unfold plR0; rw [if_pos h1]; dsimp only; omega
  · rcases mem_plL0.1 hx with ⟨r, h1, h2, rfl⟩ | ⟨h1, rfl⟩
    · dsimp only
      refine ⟨?_, by omega⟩
      rw [Int.toNat_natCast, hun r (by omega), if_pos (by omega), fst_in hr h1]
      have h3 := hui r h1
      rw [h3] at h2 ⊢
      split at h2 <;> rename_i h4
      · omega
      · rw [if_neg h4]
    · dsimp only
      refine ⟨?_, by omega⟩
      have := hreg0 h1
      rw [hun _ this, if_pos (Nat.le_refl _), hu0]
      rw [hu0] at h1
      split at h1 <;> rename_i h4
      · omega
      · rw [if_neg h4]
  · rw [hun R hR] at hu
    by_cases h : R ≤ p.ins.toNat
    · rw [if_pos h] at hu
      by_cases h2 : R < p.ins.toNat
      · refine ⟨(-1 - (R : Int), (R : Int)), mem_plL0.2 (.inl ⟨R, h2, ?_, rfl⟩), rfl⟩
        rw [fst_in hr h2] at hu
        rw [hui R h2, if_neg (by omega)]
        omega
      · have e : R = p.ins.toNat := by omega
        subst e
        refine ⟨(-1000, p.ins), mem_plL0.2 (.inr ⟨?_, rfl⟩), by dsimp only; omega⟩
        rw [hu0, if_neg (by omega)]; omega
    · rw [if_neg h] at hu; omega
  · rw [hof r hrr]
    rcases hb0 r with h | h
    · exact absurd h hu
    · by_cases h2 : r < p.ins.toNat
      · have e : heldF p 0 r = -1 - (r : Int) := by simp only [heldF]; exact if_pos (by omega)
        rw [e, Nat.min_eq_left (by omega)]
        exact mem_plL0.2 (.inl ⟨r, h2, by rw [hui r h2, if_neg hu]; omega, rfl⟩)
      · have e : heldF p 0 r = -1000 := by simp only [heldF]; exact if_neg (by omega)
        have h3 : uAt p 0 r ≤ ot (fst_ p) p.ins.toNat := hz.2.1 r (by omega) hrr
        rw [e, Nat.min_eq_right (by omega), hins]
        exact mem_plL0.2 (.inr ⟨by rw [hu0, if_neg (by omega)]; omega, rfl⟩)
  · rcases mem_plL0.1 hx with ⟨r, h1, h2, rfl⟩ | ⟨h1, rfl⟩ <;> rcases mem_plL0.1 hy with ⟨q, g1, g2, rfl⟩ | ⟨g1, rfl⟩
    · have e2 : r = q := by dsimp only at e; omega
      rw [e2]
    · dsimp only at e; omega
    · dsimp only at e; omega
    · rfl
  · rcases mem_plL0.1 hx with ⟨r, h1, h2, rfl⟩ | ⟨h1, rfl⟩ <;> dsimp only <;> omega
  · rcases mem_plL0.1 hx with ⟨r, h1, h2, rfl⟩ | ⟨h1, rfl⟩
    · dsimp only at e; omega
    · rfl
  · unfold plR0
    constructor
    · intro h
      split at h
      · by_cases h2 : R < p.ins
        · exact .inl h2
        · exact .inr (.inl ⟨by omega, by assumption⟩)
      · exact .inl h
    · rintro (h | ⟨h, h2⟩ | ⟨j, h, _⟩)
      · split <;> omega
      · rw [if_pos h2]; omega
      · omega
/-- the step of what is needed -/
def plStep (p : Pg) (k : Nat) (L : List (Int × Int)) : List (Int × Int) := L.filter (fun x => decide (untF p x.1 ≠ k)) ++ [((k : Int), ((seatOf (psAt p k).un k : Nat) : Int))]
theorem RInv.idle {p : Pg} {k : Nat} {L : List (Int × Int)} {m : Int} (h : RInv p k L m) (hk : k < p.code.length) (hn : setA p k = -1) : RInv p (k + 1) L m := by
  have e := psAt_idle hn
  have eu := uAt_idle hk hn
  have hne : ∀ x ∈ L, untF p x.1 ≠ k := fun x hx q => by
    rcases untF_spec p x.1 with ⟨h1, _⟩ | ⟨u, h1, h2, _⟩
    · omega
    · have eq : u = k := by omega
      subst eq
      rcases h2 with ⟨h3, _⟩ | ⟨_, h3, _⟩
      · omega
      · exact h3 hn
  refine ⟨h.reg, fun x hx => ?_, fun R hR hu => ?_, fun r hrr hu => ?_, h.one, fun x hx => by have := h.lt x hx; omega, h.zero, fun R => (h.seats R).trans ?_⟩
  · rw [e]
    have := h.unt x hx
    have := hne x hx
    exact ⟨(h.unt x hx).1, by omega⟩
  · rw [e] at hu; exact h.all R hR (by omega)
  · rw [e, heldF_other (.inl hn)]
    exact h.held r hrr (by rw [eu]; exact hu)
  · constructor
    · rintro (q | q | ⟨j, q1, q2, q3⟩)
      · exact .inl q
      · exact .inr (.inl q)
      · exact .inr (.inr ⟨j, by omega, q2, q3⟩)
    · rintro (q | q | ⟨j, q1, q2, q3⟩)
      · exact .inl q
      · exact .inr (.inl q)
      · refine .inr (.inr ⟨j, ?_, q2, q3⟩)
        false_or_by_contra
        have ej : j = k := by omega
        subst ej
        exact q2 hn
theorem RInv.step {p : Pg} {k : Nat} {L : List (Int × Int)} {m : Int} (hr : rightB p = true) (h : RInv p k L m) (hk : k < p.code.length) (hn : setA p k ≠ -1) : RInv p (k + 1) (plStep p k L) (max m ((seatOf (psAt p k).un k : Nat) + 1)) := by
  have hi := psAt_inv hr k (by omega)
  obtain ⟨t1, t2, t3⟩ := hi.seat hr hk hn
  have hb := setA_bound hk
  have ht := to_toNat hr hk
  have e := psAt_need hn
  have hus := untF_set hr hk hn
  have hmem : ∀ x, x ∈ plStep p k L ↔ (x ∈ L ∧ untF p x.1 ≠ k) ∨ x = ((k : Int), ((seatOf (psAt p k).un k : Nat) : Int)) := fun x => by unfold plStep; simp
  have hseats := h.seats
  generalize hs : seatOf (psAt p k).un k = t at *
  have hun : ∀ R, ot (psAt p (k + 1)).un R = if t = R ∧ R < p.regs.toNat then setA p k else ot (psAt p k).un R := fun R => by rw [e]; show ot (List.set _ _ _) R = _; rw [ot_setI, hi.lu]
  have hof : ∀ r, ot (psAt p (k + 1)).of r = if (cd p.code k).to.toNat = r ∧ r < p.regs.toNat then (t : Int) else ot (psAt p k).of r := fun r => by rw [e]; show ot (List.set _ _ _) r = _; rw [ot_setI, hi.lo]
  -- a place that is kept is another seat
  have hne : ∀ x ∈ L, untF p x.1 ≠ k → x.2.toNat ≠ t := fun x hx q e2 => by
    have h1 := h.unt x hx
    rw [e2] at h1
    omega
  refine ⟨fun x hx => ?_, fun x hx => ?_, fun R hR hu => ?_, fun r hrr hu => ?_, fun x hx y hy ex => ?_, fun x hx => ?_, fun x hx ex => ?_, fun R => ?_⟩
  · rcases (hmem x).1 hx with ⟨h1, _⟩ | rfl
    · obtain ⟨R, r1, r2, r3⟩ := h.reg x h1
      exact ⟨R, r1, r2, by omega⟩
    · exact ⟨t, t1, rfl, by dsimp only; omega⟩
  · rcases (hmem x).1 hx with ⟨h1, h2⟩ | rfl
    · have h3 := h.unt x h1
      have h4 := hne x h1 h2
      rw [hun, if_neg (fun q => h4 q.1.symm)]
      exact ⟨h3.1, by omega⟩
    · dsimp only
      rw [hun, Int.toNat_natCast, if_pos ⟨rfl, t1⟩, hus]
      exact ⟨rfl, by omega⟩
  · rw [hun] at hu
    by_cases e2 : t = R
    · exact ⟨_, (hmem _).2 (.inr rfl), by dsimp only; omega⟩
    · rw [if_neg (fun q => e2 q.1)] at hu
      obtain ⟨x, x1, x2⟩ := h.all R hR (by omega)
      refine ⟨x, (hmem x).2 (.inl ⟨x1, ?_⟩), x2⟩
      have h3 := (h.unt x x1).1
      rw [x2, Int.toNat_natCast] at h3
      omega
  · by_cases e2 : (cd p.code k).to.toNat = r
    · have e3 : (r : Int) = (cd p.code k).to := by omega
      rw [hof, if_pos ⟨e2, hrr⟩, e3, heldF_set hn]
      exact (hmem _).2 (.inr rfl)
    · have e3 : (cd p.code k).to ≠ (r : Int) := by omega
      rw [hof, if_neg (fun q => e2 q.1), heldF_other (.inr e3)]
      have e4 := uAt_other hk hn (Ne.symm e3) hu
      have h1 := h.held r hrr (by rw [e4]; exact hu)
      refine (hmem _).2 (.inl ⟨h1, ?_⟩)
      have h2 := (h.unt _ h1).1
      have h3 := hi.C r hrr (by rw [e4]; exact hu)
      have h4 := uAt_bound (p := p) (k := k + 1) (by omega) r
      dsimp only at h2 ⊢
      omega
  · rcases (hmem x).1 hx with ⟨h1, h2⟩ | rfl <;> rcases (hmem y).1 hy with ⟨g1, g2⟩ | rfl
    · exact h.one x h1 y g1 ex
    · have := h.lt x h1; dsimp only at ex; omega
    · have := h.lt y g1; dsimp only at ex; omega
    · rfl
  · rcases (hmem x).1 hx with ⟨h1, h2⟩ | rfl
    · have := h.lt x h1; omega
    · dsimp only; omega
  · rcases (hmem x).1 hx with ⟨h1, h2⟩ | rfl
    · exact h.zero x h1 ex
    · dsimp only at ex; omega
  · constructor
    · intro q
      by_cases q2 : R < m
      · rcases (hseats R).1 q2 with q3 | q3 | ⟨j, q3, q4⟩
        · exact .inl q3
        · exact .inr (.inl q3)
        · exact .inr (.inr ⟨j, by omega, q4⟩)
      · exact .inr (.inr ⟨k, by omega, hn, by rw [hs]; omega⟩)
    · rintro (q | q | ⟨j, q1, q2, q3⟩)
      · have := (hseats R).2 (.inl q); omega
      · have := (hseats R).2 (.inr (.inl q)); omega
      · by_cases ej : j = k
        · subst ej; rw [hs] at q3; omega
        · have := (hseats R).2 (.inr (.inr ⟨j, by omega, q2, q3⟩)); omega
/-- the registers' number -/
theorem RInv.regs {p : Pg} {L : List (Int × Int)} {m : Int} (hr : rightB p = true) (h : RInv p p.code.length L m) (hz : ∀ u, u ≤ p.code.length → ∃ L' m', RInv p u L' m' ∧ m' ≤ m) : m = (packP p).regs := by
  have hp := right_parts hr
  have hR : (packP p).regs = regsOf p.ins (psAt p p.code.length).code (pkOuts p) := rfl
  have hle : (packP p).regs ≤ m := by
    have hm0 : p.ins ≤ m := by have := (h.seats (p.ins - 1)).2 (.inl (by omega)); omega
    refine pk_regs_le hr hm0 (fun k hk r hrr hu => ?_) (fun k hk hn => ?_)
    · obtain ⟨L', m', h1, h2⟩ := hz k hk
      have h3 := h1.held r hrr hu
      obtain ⟨_, _, _, h4⟩ := h1.reg _ h3
      dsimp only at h4
      omega
    · exact (h.seats _).2 (.inr (.inr ⟨k, hk, hn, Int.le_refl _⟩))
  have hge : m ≤ (packP p).regs := by
    false_or_by_contra
    have hlt : (packP p).regs < m := by omega
    rcases (h.seats _).1 hlt with q | ⟨q1, q2⟩ | ⟨j, q1, q2, q3⟩
    · have := regsOf_ins p.ins (psAt p p.code.length).code (pkOuts p); omega
    · have hi0 := regsOf_ins p.ins (psAt p p.code.length).code (pkOuts p)
      rcases untF_spec p (-1000) with ⟨h1, _⟩ | ⟨u, h1, h2, _⟩
      · omega
      · obtain ⟨a, a0, a3, a1, a2⟩ := asks_pos hr h2
        have hu := askAt_le h2
        have e : ((a.toNat : Nat) : Int) = a := by omega
        obtain ⟨L', m', g1, g2⟩ := hz u hu
        have hua : uAt p u a ≠ -1 := by
          rcases a2 with ⟨rfl, b2⟩ | ⟨b1, b2, b3⟩
          · rw [uAt_end, if_pos b2]; omega
          · have := uAt_ask b1 b2 b3; omega
        have g3 := g1.held a.toNat (by omega) (by rw [e]; exact hua)
        rw [e, a1] at g3
        have g4 : ot (psAt p u).of a.toNat = p.ins := g1.zero _ g3 rfl
        rcases a2 with ⟨b1, b2⟩ | ⟨b1, b2, b3⟩
        · subst b1
          have := regsOf_out (ins := p.ins) (code := (psAt p p.code.length).code) (show ot (psAt p p.code.length).of a.toNat ∈ pkOuts p from List.mem_map.2 ⟨a, b2, rfl⟩)
          omega
        · obtain ⟨c1, c2⟩ := pk_at b1 b2
          have c3 : cd (packP p).code (mN p u) ∈ (packP p).code := by unfold cd; simp [c1]
          rw [c2] at c3
          have c4 := (regsOf_code (ins := p.ins) (outs := pkOuts p) c3).2 (ot (psAt p u).of a.toNat) (by rw [asks_mvd]; exact List.mem_map.2 ⟨a, b3, rfl⟩)
          have c5 : regsOf p.ins (packP p).code (pkOuts p) = (packP p).regs := rfl
          omega
    · obtain ⟨c1, c2⟩ := pk_at q1 q2
      have c3 : cd (packP p).code (mN p j) ∈ (packP p).code := by unfold cd; simp [c1]
      rw [c2] at c3
      have c4 := (regsOf_code (ins := p.ins) (outs := pkOuts p) c3).1
      have c5 : regsOf p.ins (packP p).code (pkOuts p) = (packP p).regs := rfl
      have c6 : (mvd (cd p.code j) (seatOf (psAt p j).un j : Nat) (psAt p j).of).to = ((seatOf (psAt p j).un j : Nat) : Int) := rfl
      omega
  omega
/-! how many are alive, by definition -/
def b1 (b : Prop) [Decidable b] : Nat := if b then 1 else 0
/-- of the first m inputs, how many are asked from k on -/
def alI (p : Pg) (k : Nat) : Nat → Nat
  | 0 => b1 ((k : Int) ≤ untF p (-1000))
  | m + 1 => alI p k m + b1 ((k : Int) ≤ untF p (-1 - m))
/-- and of what the first j set -/
def alS (p : Pg) (k : Nat) : Nat → Nat
  | 0 => alI p k p.ins.toNat
  | j + 1 => alS p k j + b1 (setA p j ≠ -1 ∧ (k : Int) ≤ untF p j)
theorem cntK_ot (k : Nat) : ∀ l : List Int, ∀ m, m ≤ l.length → cntK k (l.take m) = (List.range m).foldl (fun a j => a + b1 ((k : Int) ≤ ot l j)) 0
  | l, 0, _ => by simp [cntK]
  | l, m + 1, h => by
    have ih := cntK_ot k l m (by omega)
    rw [List.take_succ_eq_append_getElem (by omega), cntK_app, cntK_one, ih, List.range_succ, List.foldl_append]
    have e : ot l m = l[m] := by unfold ot; simp [show m < l.length by omega]
    simp only [List.foldl_cons, List.foldl_nil, b1, e]
theorem untF_le {p : Pg} {v u : Int} (k : Nat) (h : untF p v = if u = -1 then -2000 else u) : ((k : Int) ≤ untF p v) ↔ ((k : Int) ≤ u) := by
  rw [h]; split <;> omega
theorem alI_eq {p : Pg} (hr : rightB p = true) (k : Nat) : ∀ m, m ≤ p.ins.toNat → alI p k m = (List.range m).foldl (fun a j => a + b1 ((k : Int) ≤ ot (fst_ p) j)) 0 + b1 ((k : Int) ≤ ot (fst_ p) p.ins.toNat)
  | 0, _ => by
    have := untF_le k (untF_zero hr)
    simp only [alI, List.range_zero, List.foldl_nil, b1, this, Nat.zero_add]
  | m + 1, h => by
    have hp := right_parts hr
    have ih := alI_eq hr k m (by omega)
    have h2 := untF_le k (untF_in hr (r := m) (by omega))
    rw [← fst_in hr (show m < p.ins.toNat by omega)] at h2
    simp only [alI, ih, List.range_succ, List.foldl_append, List.foldl_cons, List.foldl_nil, b1, h2]
    omega
theorem alS_eq {p : Pg} (hr : rightB p = true) (k : Nat) : ∀ j, j ≤ p.code.length → alS p k j = cntK k (lasts p j)
  | 0, _ => by
    have hl : (fst_ p).length = p.ins.toNat + 1 := fstL_length p _
    have e : lasts p 0 = (fst_ p).take (p.ins.toNat + 1) := by unfold lasts; rw [List.take_of_length_le (by omega)]; simp
    rw [e, cntK_ot k _ _ (by omega), List.range_succ, List.foldl_append]
    simp only [alS, alI_eq hr k _ (Nat.le_refl _), List.foldl_cons, List.foldl_nil]
  | j + 1, h => by
    have ih := alS_eq hr k j (by omega)
    rw [lasts_succ, cntK_app, cntK_one, ← ih]
    simp only [alS, b1]
    by_cases hn : setA p j = -1
    · rw [if_neg (fun q => q.1 hn), hn, if_neg (by omega)]
    · rw [untF_set hr (by omega) hn]
      by_cases h2 : (k : Int) ≤ setA p j
      · rw [if_pos ⟨hn, h2⟩, if_pos h2]
      · rw [if_neg (fun q => h2 q.2), if_neg h2]
/-- the greatest so far, of those that are needed; at last of all -/
def amost (p : Pg) : Nat → Nat
  | 0 => 0
  | k + 1 => if k < p.code.length ∧ setA p k = -1 then amost p k else max (amost p k) (alS p k k)
theorem alN_idle {p : Pg} {k : Nat} (hk : k < p.code.length) (hr : rightB p = true) (hn : setA p k = -1) : alN p k = alN p (k + 1) := by
  have h0 := seats_cnt hr k (by omega) k (Nat.le_refl _)
  have h1 := seats_cnt hr (k + 1) (by omega) (k + 1) (Nat.le_refl _)
  have hi := psAt_inv hr k (by omega)
  unfold alN
  rw [← h0, ← h1, psAt_idle hn]
  unfold cntK
  refine List.countP_congr (fun u hu => ?_)
  obtain ⟨R, hR, rfl⟩ := List.mem_iff_getElem.1 hu
  have e : ot (psAt p k).un R = (psAt p k).un[R] := by unfold ot; simp [hR]
  rw [← e]
  simp only [decide_eq_true_eq]
  constructor
  · intro h
    have hne : ot (psAt p k).un R ≠ k := fun q => by
      obtain ⟨r, r1, r2, r3⟩ := hi.D R (by rw [← hi.lu]; exact hR) h
      exact (uAt_eq hk (r3.trans q)).1 hn
    omega
  · intro h; omega
theorem amost_eq {p : Pg} (hr : rightB p = true) : amost p (p.code.length + 1) = mostN p p.code.length := by
  have key : ∀ k, k ≤ p.code.length → max (amost p k) (alN p k) = mostN p k := by
    intro k
    induction k with
    | zero => intro _; simp [amost, mostN]
    | succ k ih =>
      intro hk
      have ih := ih (by omega)
      simp only [amost, mostN, ← ih]
      by_cases hn : setA p k = -1
      · rw [if_pos ⟨by omega, hn⟩, ← alN_idle (by omega) hr hn]; omega
      · rw [if_neg (fun q => hn q.2), alS_eq hr k k (by omega)]
        show max (max (amost p k) (alN p k)) _ = _
        rfl
  have h := key p.code.length (Nat.le_refl _)
  simp only [amost]
  rw [if_neg (by omega), alS_eq hr _ _ (Nat.le_refl _)]
  exact h
end Go.Proofs.Ytheakienigmkhaa
