/- What the pass keeps: it may be, the pass again, no more multiplications, no more divisions. -/
import Derived.Test.YtokgdegfcncahaaDoorFoPa
import Derived.Test.YtokgdegfcncahaaDoorPgCnt
namespace Go.Proofs.YtokgdegfcncahaaDoor
open Go.RowKit

theorem right_of {p : Pg} (h1 : 1 ≤ p.ins) (h2 : p.ins ≤ p.regs) (h3 : p.regs ≤ 128) (h4 : p.code.length ≤ 16384) (h5 : 1 ≤ p.outs.length) (h6 : p.outs.length ≤ 128) (h7 : ∀ k, k < p.outs.length → 0 ≤ ot p.outs k ∧ ot p.outs k < p.regs) (h8 : ∀ k, k < p.code.length → mayB (cd p.code k) p.regs = true) : rightB p = true := by
  refine (right_yes ?_ h8).1
  unfold headB numB
  simp only [Bool.and_eq_true, decide_eq_true_eq]
  refine ⟨⟨⟨⟨⟨⟨h1, h2⟩, h3⟩, h4⟩, h5⟩, h6⟩, all_of fun j hj => ?_⟩
  unfold regB
  simp only [Bool.and_eq_true, decide_eq_true_eq]
  exact h7 j hj
theorem mem_may {l : List Ins} {r : Int} (h : ∀ k, k < l.length → mayB (cd l k) r = true) : ∀ i ∈ l, mayB i r = true := by
  intro i hi
  obtain ⟨k, hk, e⟩ := List.getElem_of_mem hi
  have := h k hk
  rw [cd_lt hk, e] at this
  exact this
theorem pas_right {p : Pg} (h : rightB p = true) : rightB (pasP p) = true := by
  obtain ⟨p1, p2, p3, p4, p5, p6, p7, p8⟩ := right_parts h
  refine right_of p1 p2 p3 ?_ p5 p6 p7 ?_
  · have := fold_length p.code
    show (fold p.code).length ≤ 16384
    omega
  · intro k hk
    show mayB (cd (fold p.code) k) p.regs = true
    have hk' : k < (fold p.code).length := hk
    rw [cd_lt hk']
    exact fold_may p.code (mem_may p8) _ (List.getElem_mem hk')
theorem pas_again {p : Pg} (h : rightB p = true) : pasP (pasP p) = pasP p := by
  obtain ⟨p1, p2, p3, p4, p5, p6, p7, p8⟩ := right_parts h
  unfold pasP
  dsimp only
  rw [fold_again p.code (mem_may p8)]
theorem tog_op {ao ac bo bc o c : Int} (h : tog ao ac bo bc = some (o, c)) : (o = 5 → ao = 5 ∨ bo = 5) ∧ (o = 6 → ao = 6 ∨ bo = 6) := by
  unfold tog ifT quoT difT at h
  repeat' split at h
  all_goals first | (cases h; done) | (cases h; omega)
theorem pl_op (i : Ins) : ((plI i).op = 5 → i.op = 5) ∧ ((plI i).op = 6 → i.op = 6) := by
  unfold plI
  repeat' split
  all_goals ((try dsimp only); omega)
theorem me_op {a b x : Ins} (h : meI a b = some x) : (x.op = 5 → a.op = 5 ∨ b.op = 5) ∧ (x.op = 6 → a.op = 6 ∨ b.op = 6) := by
  unfold meI at h
  by_cases hc : twoB b.op = false ∧ b.a = a.to ∧ b.to = a.to
  · rw [if_pos hc] at h
    cases ht : tog a.op a.c b.op b.c with
    | none => rw [ht] at h; cases h
    | some y =>
      rw [ht, Option.map_some, Option.some.injEq] at h
      subst h
      obtain ⟨o, c⟩ := y
      have h1 := tog_op ht
      have h2 := pl_op ⟨o, a.to, a.a, 0, c⟩
      dsimp only at h2 ⊢
      exact ⟨fun h => h1.1 (h2.1 h), fun h => h1.2 (h2.2 h)⟩
  · rw [if_neg hc] at h; cases h
def is5 (n : Int) (i : Ins) : Nat := if i.op = n then 1 else 0
def num5 (n : Int) (l : List Ins) : Nat := l.countP (fun i => decide (i.op = n))
theorem num_cons (n : Int) (i : Ins) (l : List Ins) : num5 n (i :: l) = num5 n l + is5 n i := by unfold num5 is5; rw [List.countP_cons]; simp
theorem push_num (n : Int) (hn : n = 5 ∨ n = 6) (l : List Ins) : ∀ b, num5 n (pushI l b) ≤ num5 n l + is5 n b := by
  induction l with
  | nil =>
    intro b
    cases h : noB b with
    | true => rw [pushI_nothing _ _ h]; omega
    | false => rw [pushI_nil _ h, num_cons]; omega
  | cons a l ih =>
    intro b
    cases h : noB b with
    | true => rw [pushI_nothing _ _ h]; omega
    | false =>
      cases hx : meI a b with
      | none => rw [pushI_stay _ _ _ h hx, num_cons]; omega
      | some x =>
        rw [pushI_melt _ _ _ _ h hx, num_cons]
        have h1 := ih x
        have h2 := me_op hx
        have h3 : is5 n x ≤ is5 n a + is5 n b := by
          unfold is5
          rcases hn with rfl | rfl <;> split <;> split <;> split <;> omega
        omega
theorem run_num (n : Int) (hn : n = 5 ∨ n = 6) (l : List Ins) : num5 n (runI l) ≤ num5 n l := by
  have : ∀ (l m : List Ins), num5 n (l.foldl (fun l i => pushI l (plI i)) m) ≤ num5 n m + num5 n l := by
    intro l
    induction l with
    | nil => intro m; simp [num5]
    | cons a l ih =>
      intro m
      have h1 := ih (pushI m (plI a))
      have h2 := push_num n hn m (plI a)
      have h3 : is5 n (plI a) ≤ is5 n a := by
        have := pl_op a
        unfold is5
        rcases hn with rfl | rfl <;> split <;> split <;> omega
      rw [num_cons]
      simp only [List.foldl_cons]
      omega
  have h := this l []
  have e : num5 n [] = 0 := rfl
  rw [e] at h
  unfold runI
  omega
theorem cnt_num {l : List Ins} {r : Int} (h : ∀ i ∈ l, mayB i r = true) : cnt 2 l = num5 5 l ∧ cnt 3 l = num5 6 l := by
  unfold cnt num5
  constructor
  · congr 1
    refine List.countP_congr fun i hi => ?_
    unfold cls
    simp only [beq_iff_eq, decide_eq_true_eq]
    repeat' split
    all_goals omega
  · congr 1
    refine List.countP_congr fun i hi => ?_
    have := h i hi
    rw [may_iff] at this
    unfold cls
    simp only [beq_iff_eq, decide_eq_true_eq]
    repeat' split
    all_goals omega
theorem fold_cnt {l : List Ins} {r : Int} (h : ∀ i ∈ l, mayB i r = true) : cnt 2 (fold l) ≤ cnt 2 l ∧ cnt 3 (fold l) ≤ cnt 3 l := by
  rw [(cnt_num h).1, (cnt_num h).2, (cnt_num (fold_may l h)).1, (cnt_num (fold_may l h)).2]
  have e : ∀ n, num5 n (fold l) = num5 n (runI l) := fun n => by unfold num5 fold; rw [List.countP_reverse]
  rw [e, e]
  exact ⟨by have := run_num 5 (.inl rfl) l; omega, by have := run_num 6 (.inr rfl) l; omega⟩
end Go.Proofs.YtokgdegfcncahaaDoor
