/- Two programs that may be, put together: a program that may be, and how deep it is. -/
import Derived.Test.YtlbjkfnknkpkiaaDoorPgDep2
namespace Go.Proofs.YtlbjkfnknkpkiaaDoor
open Go.RowKit

theorem right_of {p : Pg} (h1 : 1 ≤ p.ins) (h2 : p.ins ≤ p.regs) (h3 : p.regs ≤ 128) (h4 : p.code.length ≤ 16384) (h5 : 1 ≤ p.outs.length) (h6 : p.outs.length ≤ 128) (h7 : ∀ r ∈ p.outs, 0 ≤ r ∧ r < p.regs) (h8 : ∀ i ∈ p.code, mayB i p.regs = true) : rightB p = true := by
  unfold rightB headB numB badAt
  simp only [Bool.and_eq_true, decide_eq_true_eq]
  refine ⟨⟨⟨⟨⟨⟨⟨h1, h2⟩, h3⟩, h4⟩, h5⟩, h6⟩, ?_⟩, ?_⟩
  · rw [List.all_eq_true]
    intro r hr
    have := h7 r hr
    unfold regB
    simp [this]
  · rw [List.findIdx_eq_length]
    intro i hi
    rw [h8 i hi]; rfl
theorem may_mem {p : Pg} (h : rightB p = true) : ∀ i ∈ p.code, mayB i p.regs = true := by
  intro i hi
  obtain ⟨k, hk, rfl⟩ := List.mem_iff_getElem.1 hi
  have := (right_parts h).2.2.2.2.2.2.2 k hk
  rwa [cd_lt hk] at this
theorem out_mem {p : Pg} (h : rightB p = true) : ∀ r ∈ p.outs, 0 ≤ r ∧ r < p.regs := by
  intro i hi
  obtain ⟨k, hk, rfl⟩ := List.mem_iff_getElem.1 hi
  have := (right_parts h).2.2.2.2.2.2.1 k hk
  rwa [ot_lt hk] at this
theorem may_more {i : Ins} {a b : Int} (h : mayB i a = true) (hab : a ≤ b) : mayB i b = true := by
  unfold mayB regB at *
  simp only [Bool.and_eq_true, decide_eq_true_eq] at *
  obtain ⟨⟨h0, ⟨⟨h1, h2⟩, h3, h4⟩, h5, h6⟩, h7⟩ := h
  exact ⟨⟨h0, ⟨⟨h1, by omega⟩, h3, by omega⟩, h5, by omega⟩, h7⟩
theorem may_raise {i : Ins} {a n : Int} (h : mayB i a = true) (hn : 0 ≤ n) : mayB (raiseI i n) (n + a) = true := by
  obtain ⟨m1, m2, m3, m4, m5, m6, m7, m8, m9, m10⟩ := may_parts h
  unfold mayB regB raiseI
  simp only [Bool.and_eq_true, Bool.or_eq_true, decide_eq_true_eq]
  cases ht : twoB i.op with
  | true => simp only [if_true]; exact ⟨⟨m9, ⟨⟨by omega, by omega⟩, by omega, by omega⟩, by omega, by omega⟩, .inr trivial⟩
  | false =>
    have hb : i.b = 0 := m10.elim id (fun h => by rw [ht] at h; cases h)
    simp only [Bool.false_eq_true, if_false]
    exact ⟨⟨m9, ⟨⟨by omega, by omega⟩, by omega, by omega⟩, by omega, by omega⟩, .inl hb⟩
theorem mem_mvs {p : Pg} {k : Nat} {i : Ins} (h : i ∈ mvs p k) : ∃ j, j < k ∧ i = mvI p j := by
  unfold mvs at h
  obtain ⟨j, hj, rfl⟩ := List.mem_map.1 h
  exact ⟨j, List.mem_range.1 hj, rfl⟩
theorem mem_rsd {p q : Pg} {k : Nat} {i : Ins} (h : i ∈ rsd p q k) : ∃ j, j < k ∧ i = raiseI (cd q.code j) p.regs := by
  unfold rsd at h
  obtain ⟨j, hj, rfl⟩ := List.mem_map.1 h
  exact ⟨j, List.mem_range.1 hj, rfl⟩
theorem mem_ots {p q : Pg} {k : Nat} {r : Int} (h : r ∈ ots p q k) : ∃ j, j < k ∧ r = p.regs + ot q.outs j := by
  unfold ots at h
  obtain ⟨j, hj, rfl⟩ := List.mem_map.1 h
  exact ⟨j, List.mem_range.1 hj, rfl⟩
theorem joined_right {p q : Pg} (hp : rightB p = true) (hq : rightB q = true) (h : joinE p q = 0) : rightB (joined p q) = true := by
  obtain ⟨p1, p2, p3, p4, p5, p6, p7, p8⟩ := right_parts hp
  obtain ⟨q1, q2, q3, q4, q5, q6, q7, q8⟩ := right_parts hq
  unfold joinE at h
  split at h
  · cases h
  · rename_i g1
    split at h
    · cases h
    · rename_i g2
      have g1' : q.ins = p.outs.length := by omega
      refine right_of p1 (by show p.ins ≤ p.regs + q.regs; omega) (by show p.regs + q.regs ≤ 128; omega) ?_ (by show 1 ≤ (ots p q q.outs.length).length; rw [ots_length]; exact q5) (by show (ots p q q.outs.length).length ≤ 128; rw [ots_length]; exact q6) ?_ ?_
      · show (p.code ++ mvs p p.outs.length ++ rsd p q q.code.length).length ≤ 16384
        rw [List.length_append, List.length_append, mvs_length, rsd_length]
        omega
      · intro r hr
        obtain ⟨j, hj, rfl⟩ := mem_ots hr
        have := q7 j hj
        show 0 ≤ p.regs + ot q.outs j ∧ p.regs + ot q.outs j < p.regs + q.regs
        omega
      · intro i hi
        show mayB i (p.regs + q.regs) = true
        rcases List.mem_append.1 hi with hi | hi
        · rcases List.mem_append.1 hi with hi | hi
          · exact may_more (may_mem hp i hi) (by omega)
          · obtain ⟨j, hj, rfl⟩ := mem_mvs hi
            have := p7 j hj
            unfold mayB regB mvI
            simp only [Bool.and_eq_true, Bool.or_eq_true, decide_eq_true_eq]
            exact ⟨⟨rfl, ⟨⟨by omega, by omega⟩, by omega, by omega⟩, by omega, by omega⟩, .inl trivial⟩
        · obtain ⟨j, hj, rfl⟩ := mem_rsd hi
          exact may_raise (q8 j hj) (by omega)

/-- what is not set stays -/
theorem drun_low (n : Int) (l : List Ins) (h : ∀ i ∈ l, n ≤ i.to) : ∀ d r, r < n → drun d l r = d r := by
  induction l with
  | nil => intro d r _; rfl
  | cons i l ih =>
    intro d r hr
    show drun (dstep d i) l r = d r
    rw [ih (fun i hi => h i (by simp [hi])) _ r hr]
    unfold dstep
    rw [if_neg (by have := h i (by simp); omega)]
theorem drun_high (n : Int) (l : List Ins) (h : ∀ i ∈ l, i.to < n) : ∀ d r, n ≤ r → drun d l r = d r := by
  induction l with
  | nil => intro d r _; rfl
  | cons i l ih =>
    intro d r hr
    show drun (dstep d i) l r = d r
    rw [ih (fun i hi => h i (by simp [hi])) _ r hr]
    unfold dstep
    rw [if_neg (by have := h i (by simp); omega)]
theorem asks_mv (p : Pg) (j : Nat) : asksL (mvI p j) = [ot p.outs j] := rfl
/-- behind the moves all of the second program's registers are at most so deep -/
theorem mvs_bound {p : Pg} (hp : rightB p = true) (b : Int) (hb : 0 ≤ b) (d : Int → Int) (hd : ∀ r, r < p.regs → (∃ k, k < p.outs.length ∧ r = ot p.outs k) → d r ≤ b) (h0 : ∀ r, p.regs ≤ r → d r ≤ 1 + b) :
    ∀ k, k ≤ p.outs.length → ∀ r, p.regs ≤ r → drun d (mvs p k) r ≤ 1 + b := by
  intro k
  induction k with
  | zero => intro _ r hr; exact h0 r hr
  | succ k ih =>
    intro hk r hr
    rw [mvs_succ, drun_append]
    show dstep (drun d (mvs p k)) (mvI p k) r ≤ 1 + b
    unfold dstep
    have p7 := (right_parts hp).2.2.2.2.2.2.1 k (by omega)
    by_cases e : r = (mvI p k).to
    · rw [if_pos e, asks_mv]
      have hlow := drun_low p.regs (mvs p k) (fun i hi => by obtain ⟨j, _, rfl⟩ := mem_mvs hi; show p.regs ≤ p.regs + (j : Int); omega) d (ot p.outs k) p7.2
      have := hd (ot p.outs k) p7.2 ⟨k, by omega, rfl⟩
      simp only [dmax, hlow]
      omega
    · rw [if_neg e]
      exact ih (by omega) r hr
theorem asks_raise (i : Ins) (n : Int) : asksL (raiseI i n) = (asksL i).map (· + n) := by
  unfold asksL raiseI twoB
  by_cases h : i.op = 3 ∨ i.op = 4
  · rw [if_pos h, if_pos h]
    have : (decide (i.op = 3) || decide (i.op = 4)) = true := by simpa using h
    rw [this]; rfl
  · rw [if_neg h, if_neg h]
    by_cases h2 : 1 ≤ i.op ∧ i.op ≤ 8
    · rw [if_pos h2, if_pos h2]; rfl
    · rw [if_neg h2, if_neg h2]; rfl
theorem dmax_map {d e : Int → Int} {n b : Int} (hb : 0 ≤ b) (l : List Int) (h : ∀ r ∈ l, d (r + n) ≤ e r + b) : dmax d (l.map (· + n)) ≤ dmax e l + b := by
  induction l with
  | nil => exact Int.le_trans hb (by simp [dmax])
  | cons r l ih =>
    simp only [List.map_cons, dmax]
    have := h r (by simp)
    have := ih (fun r hr => h r (by simp [hr]))
    omega
theorem run_raise (n b : Int) (hb : 0 ≤ b) (l : List Ins) (hl : ∀ i ∈ l, 0 ≤ i.to ∧ ∀ r ∈ asksL i, 0 ≤ r) : ∀ d e : Int → Int, (∀ r, 0 ≤ r → d (r + n) ≤ e r + b) → ∀ r, 0 ≤ r → drun d (l.map (raiseI · n)) (r + n) ≤ drun e l r + b := by
  induction l with
  | nil => intro d e h; exact h
  | cons i l ih =>
    intro d e h r hr
    show drun (dstep d (raiseI i n)) (l.map (raiseI · n)) (r + n) ≤ drun (dstep e i) l r + b
    refine ih (fun i hi => hl i (by simp [hi])) _ _ (fun r hr => ?_) r hr
    have hi := hl i (by simp)
    unfold dstep
    by_cases he : r = i.to
    · rw [if_pos he, if_pos (by subst he; rfl), asks_raise]
      have := dmax_map (e := e) hb (asksL i) (fun r hr => h r (hi.2 r hr))
      omega
    · rw [if_neg he, if_neg (by show ¬ r + n = i.to + n; omega)]
      exact h r hr
theorem rsd_eq (p q : Pg) : rsd p q q.code.length = q.code.map (raiseI · p.regs) := by
  unfold rsd
  apply List.ext_getElem
  · simp
  · intro k h1 h2
    have hk : k < q.code.length := by simpa using h2
    simp [cd_lt hk]
theorem ots_eq (p q : Pg) : ots p q q.outs.length = q.outs.map (· + p.regs) := by
  unfold ots
  apply List.ext_getElem
  · simp
  · intro k h1 h2
    have hk : k < q.outs.length := by simpa using h2
    simp [ot_lt hk, Int.add_comm]
theorem joined_dep {p q : Pg} (hp : rightB p = true) (hq : rightB q = true) : dep (joined p q) ≤ dep p + dep q + 1 := by
  obtain ⟨p1, p2, p3, p4, p5, p6, p7, p8⟩ := right_parts hp
  have hb : 0 ≤ dep p := dmax_nonneg
  show dmax (drun (fun _ => 0) (p.code ++ mvs p p.outs.length ++ rsd p q q.code.length)) (ots p q q.outs.length) ≤ _
  rw [drun_append, drun_append, rsd_eq, ots_eq]
  have h1 := mvs_bound hp (dep p) hb (drun (fun _ => 0) p.code) (fun r _ ⟨k, hk, e⟩ => by subst e; exact le_dmax (ot_mem hk)) (fun r hr => by
    rw [drun_high p.regs p.code (fun i hi => (may_parts (may_mem hp i hi)).2.1) _ r hr]; omega) p.outs.length (Nat.le_refl _)
  have h2 := run_raise p.regs (1 + dep p) (by omega) q.code (fun i hi => ⟨(may_parts (may_mem hq i hi)).1, fun r hr => (asks_may (may_mem hq i hi) r hr).1⟩) (drun (drun (fun _ => 0) p.code) (mvs p p.outs.length)) (fun _ => 0) (fun r hr => by
    have := h1 (r + p.regs) (by omega); omega)
  have := dmax_map (d := drun (drun (drun (fun _ => 0) p.code) (mvs p p.outs.length)) (q.code.map (raiseI · p.regs))) (e := drun (fun _ => 0) q.code) (n := p.regs) (b := 1 + dep p) (by omega) q.outs (fun r hr => h2 r (out_mem hq r hr).1)
  have e : dep q = dmax (drun (fun _ => 0) q.code) q.outs := rfl
  omega
end Go.Proofs.YtlbjkfnknkpkiaaDoor
