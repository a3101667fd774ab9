/- A statement that leaves its order open and writes into what it reads, at its end: what waits for an operation, by whatever way round. Nothing of the program. -/
import Derived.Test.YtheakienigmkhaaCalm
namespace Go.Proofs.Ytheakienigmkhaa
open Go.RowKit

section
variable {P : Program} {md : Region.Mode} {ops : Array Oper} {Q : Exit → Act → World → Prop} {F : World → Prop} {pend : Nat → Bool}

/-- j waits for i, by so many steps at most -/
def Late (md : Region.Mode) (ops : Array Oper) (i : Nat) : Nat → Nat → Bool
  | 0, _ => false
  | n + 1, j => match ops[j]? with
    | some oj => oj.after.any fun e => Region.binds md e && (e.on == i || Late md ops i n e.on)
    | none => false

/-- what is listed waits for nothing that is not -/
def Closed (md : Region.Mode) (ops : Array Oper) (listed : Array Bool) : Bool :=
  (List.range ops.size).all fun j => !(listed.getD j true) || match ops[j]? with
    | some oj => oj.after.all fun e => !(Region.binds md e) || listed.getD e.on false
    | none => true

def WaitsL (md : Region.Mode) (ops : Array Oper) (pend : Nat → Bool) (i n : Nat) : Bool :=
  (List.range ops.size).all fun j => j == i || pend j || Late md ops i n j

/-- what is listed waits for nothing that is not, as a proposition -/
def Shut (md : Region.Mode) (ops : Array Oper) (listed : Array Bool) : Prop :=
  ∀ (j : Nat) (oj : Oper), ops[j]? = some oj → listed[j]? = some true → ∀ e ∈ oj.after, Region.binds md e = true → listed[e.on]? = some true

theorem Closed.shut {listed : Array Bool} (h : Closed md ops listed = true) : Shut md ops listed := by
  intro j oj hj hl e he hb
  have := List.all_eq_true.1 h j (List.mem_range.2 (Array.getElem?_eq_some_iff.1 hj).1)
  have hl' : listed.getD j true = true := by simp [hl]
  simp only [hj, hl', Bool.not_true, Bool.false_or] at this
  have h2 := Array.all_eq_true'.1 this e he
  simp only [hb, Bool.not_true, Bool.false_or] at h2
  rcases Nat.lt_or_ge e.on listed.size with h' | h'
  · simp [h'] at h2 ⊢; exact h2
  · simp [Array.getElem?_eq_none h'] at h2

theorem Shut.not_late {listed : Array Bool} {i : Nat} (h : Shut md ops listed) (hi : listed[i]? ≠ some true) : ∀ (n j : Nat), listed[j]? = some true → Late md ops i n j = false
  | 0, _, _ => rfl
  | n + 1, j, hj => by
    unfold Late
    cases ho : ops[j]? with
    | none => rfl
    | some oj =>
      simp only
      rw [Array.any_eq_false']
      intro e he hc
      simp only [Bool.and_eq_true, Bool.or_eq_true, beq_iff_eq] at hc
      have hl := h j oj ho hj e he hc.1
      rcases hc.2 with h1 | h1
      · rw [h1] at hl; exact hi hl
      · rw [h.not_late hi n e.on hl] at h1; cases h1

theorem Calm.firstL {i n : Nat} {oi : Oper} {v : Value} (hi : ops[i]? = some oi) (hs : Region.noSelect ops = true) (hw : WaitsL md ops pend i (n + 1) = true)
    (hQ : ∀ c a w, Q (.panic c) (a.put oi.dst v) w → Q (.panic c) a w) : ∀ (fuel : Nat) (listed : Array Bool) (a : Act) (w : World), Shut md ops listed →
      (∀ j oj, ops[j]? = some oj → j ≠ i → listed.getD j true = false → (∀ e ∈ oj.after, Region.binds md e = true → e.on ≠ i) → oi.apart ops oj = true) →
      i ∈ Region.ready md ops listed → F w → Gives P ops F oi v a → Calm P md ops Q F pend fuel (listed.setIfInBounds i true) (a.put oi.dst v) w → Calm P md ops Q F pend (fuel + 1) listed a w := by
  have hsel := Region.noSelect_spec hs
  intro fuel
  induction fuel with
  | zero =>
    intro listed a w _ _ hr hF hy H
    refine ⟨fun h => (by rw [h] at hr; cases hr), fun j hj => ?_⟩
    by_cases e : j = i
    · subst e; exact hy.wpOp hi hF ⟨fun _ => hF, H⟩
    · have := ready_mono hj e
      rw [H.1] at this
      cases this
  | succ fuel ih =>
    intro listed a w hsh hfree hr hF hy H
    refine ⟨fun h => (by rw [h] at hr; cases hr), fun j hj => ?_⟩
    by_cases e : j = i
    · subst e; exact hy.wpOp hi hF ⟨fun _ => hF, H⟩
    · obtain ⟨hun, oj, hoj, hall⟩ := mem_ready.1 hj
      have hni : listed[i]? ≠ some true := by
        have h0 := (mem_ready.1 hr).1
        intro hc
        simp [hc] at h0
      have hto : ∀ e ∈ oj.after, Region.binds md e = true → listed[e.on]? = some true := fun e he hb => by
        have h1 := hall e he hb
        rcases Nat.lt_or_ge e.on listed.size with h' | h'
        · simp [h'] at h1 ⊢; exact h1
        · simp [Array.getElem?_eq_none h'] at h1
      have hno : ∀ e ∈ oj.after, Region.binds md e = true → e.on ≠ i := fun e he hb heq => by
        have h1 := hto e he hb
        rw [heq] at h1
        exact hni h1
      have hlate : Late md ops i (n + 1) j = false := by
        unfold Late
        simp only [hoj]
        rw [Array.any_eq_false']
        intro e he hc
        simp only [Bool.and_eq_true, Bool.or_eq_true, beq_iff_eq] at hc
        rcases hc.2 with h1 | h1
        · exact hno e he hc.1 h1
        · rw [hsh.not_late hni n e.on (hto e he hc.1)] at h1; cases h1
      have hp : pend j = true := by
        have := List.all_eq_true.1 hw j (List.mem_range.2 (Array.getElem?_eq_some_iff.1 hoj).1)
        simp only [hlate, Bool.or_false, Bool.or_eq_true, beq_iff_eq, e, false_or] at this
        exact this
      have hsh' : Shut md ops (listed.setIfInBounds j true) := by
        intro k ok hk hl e' he' hb'
        have up : listed[e'.on]? = some true → (listed.setIfInBounds j true)[e'.on]? = some true := fun h => by
          rw [Array.getElem?_setIfInBounds]
          split
          · next h2 => rw [if_pos (by rw [h2]; exact (Array.getElem?_eq_some_iff.1 h).1)]
          · exact h
        by_cases hkj : j = k
        · subst hkj
          rw [hoj] at hk; cases hk
          exact up (hto e' he' hb')
        · rw [Array.getElem?_setIfInBounds, if_neg hkj] at hl
          exact up (hsh k ok hk hl e' he' hb')
      obtain ⟨k1, k2, k3⟩ := Oper.apart_spec (hfree j oj hoj e hun hno)
      have same : ∀ (a a' : Act), execOp a'.eval oi = execOp a.eval oi → Region.wanted oi (yielded ops a'.tmps) = Region.wanted oi (yielded ops a.tmps) → Gives P ops F oi v a → Gives P ops F oi v a' := by
        intro a a' h1 h2 h3
        unfold Gives at *
        rw [h1, h2]; exact h3
      have h2 := wpOp_late (x := oi.dst) (v := v) (Y := Gives P ops F oi v) hoj k1 k2 (fun cs b => hsel j oj cs b hoj) hQ
        (fun a u => same _ _ (execOp_put oi (fun cs b => hsel i oi cs b hi) a oj.dst u k3) (wanted_put oi a oj.dst u k3)) (fun a d => same _ _ rfl rfl) hy (H.2 j (ready_mono hj e))
      refine wpOp_mono (fun a' w' h3 => ⟨h3.2.1, ?_⟩) h2
      refine ih (listed.setIfInBounds j true) a' w' hsh' (fun k ok hk hki hun' hno' => hfree k ok hk hki ?_ hno') (ready_mono hr (Ne.symm e)) (h3.2.1 hp) h3.1 ?_
      · by_cases hjk : j = k
        · subst hjk; exact hun
        · rw [getD_set_ne true hjk] at hun'; exact hun'
      · rw [Array.setIfInBounds_comm _ _ e]; exact h3.2.2

theorem Calm.takeL {i : Nat} (n : Nat) {oi : Oper} {v : Value} {fuel : Nat} {listed : Array Bool} {a : Act} {w : World} (hc : Closed md ops listed = true) (hi : ops[i]? = some oi) (hs : Region.noSelect ops = true) (hw : WaitsL md ops pend i (n + 1) = true) (hf : Region.free md ops listed i = true)
    (hr : (Region.ready md ops listed).contains i = true) (hQ : ∀ c a w, Q (.panic c) (a.put oi.dst v) w → Q (.panic c) a w) (hF : F w) (hg : Region.wanted oi (yielded ops a.tmps) = true) (hy : ∀ w, F w → (execOp a.eval oi).run P w = .ok (.value v) w)
    {l' : Array Bool} (hl : listed.setIfInBounds i true = l') {d : Option Tmp} (hd : oi.dst = d) {a' : Act} (ha : a.put d v = a') (h : Calm P md ops Q F pend fuel l' a' w) : Calm P md ops Q F pend (fuel + 1) listed a w := by
  subst hl; subst hd; subst ha
  exact Calm.firstL hi hs hw hQ fuel listed a w (Closed.shut hc) (Region.free_spec hi hf) (by simpa using hr) hF (.inl ⟨hg, hy⟩) h
end
end Go.Proofs.Ytheakienigmkhaa
