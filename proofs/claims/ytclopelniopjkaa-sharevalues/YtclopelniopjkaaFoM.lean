/- The pass 'fold' in plain words: plain forms, what melts, the pass; what it keeps. -/
import Derived.Test.YtclopelniopjkaaPgIn
namespace Go.Proofs.Ytclopelniopjkaa
open Go.RowKit

/-- m, where c is 2 to the m, m from 1 to 9; else 0 -/
def p2 (c : Int) : Int := if c = 2 then 1 else if c = 4 then 2 else if c = 8 then 3 else if c = 16 then 4 else if c = 32 then 5 else if c = 64 then 6 else if c = 128 then 7 else if c = 256 then 8 else if c = 512 then 9 else 0
theorem p2_bounds (c : Int) : 0 ≤ p2 c ∧ p2 c ≤ 9 := by unfold p2; repeat' split
                                                        all_goals omega
/-- the plain form -/
def plI (i : Ins) : Ins :=
  if i.op = 5 ∨ i.op = 6 then
    (if i.c = 1 then ⟨1, i.to, i.a, 0, 0⟩ else if i.c = -1 then ⟨2, i.to, i.a, 0, 0⟩ else if 0 < p2 i.c then ⟨i.op + 2, i.to, i.a, 0, p2 i.c⟩ else i)
  else if i.op = 3 ∧ i.a = i.b then ⟨7, i.to, i.a, 0, 1⟩ else i
/-- it does nothing -/
def noB (i : Ins) : Bool := decide (i.op = 1) && decide (i.to = i.a)
def conB (c : Int) : Bool := decide (-512 ≤ c) && decide (c ≤ 512)
def shB (c : Int) : Bool := decide (c ≤ 64)
/-- an operation with its constant, if it goes -/
def ifT (b : Bool) (o c : Int) : Option (Int × Int) := if b = true then some (o, c) else none
def quoT (c d : Int) : Option (Int × Int) := if c.tmod d = 0 then some (5, c.tdiv d) else if d.tmod c = 0 then some (6, d.tdiv c) else none
def difT (c d : Int) : Option (Int × Int) := if d < c then some (7, c - d) else if c < d then some (8, d - c) else some (1, 0)
/-- the table -/
def tog (ao ac bo bc : Int) : Option (Int × Int) :=
  if ao = 1 then some (bo, bc)
  else if ao = 2 then (if bo = 1 then some (2, 0) else if bo = 2 then some (1, 0) else if bo = 5 ∨ bo = 6 then some (bo, -bc) else none)
  else if ao = 5 then (if bo = 2 then some (5, -ac) else if bo = 5 then ifT (conB (ac * bc)) 5 (ac * bc)
    else if bo = 6 then quoT ac bc else none)
  else if ao = 6 then (if bo = 2 then some (6, -ac) else if bo = 6 then ifT (conB (ac * bc)) 6 (ac * bc) else none)
  else if ao = 7 then (if bo = 7 then ifT (shB (ac + bc)) 7 (ac + bc)
    else if bo = 8 then difT ac bc else none)
  else if ao = 8 then (if bo = 8 then ifT (shB (ac + bc)) 8 (ac + bc) else none)
  else none
/-- what comes of two -/
def meI (a b : Ins) : Option Ins := if twoB b.op = false ∧ b.a = a.to ∧ b.to = a.to then (tog a.op a.c b.op b.c).map (fun x => plI ⟨x.1, a.to, a.a, 0, x.2⟩) else none
/-- an instruction goes upon the list (its last one first) -/
def pushI : List Ins → Ins → List Ins
  | [], b => if noB b then [] else [b]
  | a :: l, b => if noB b then a :: l else match meI a b with
    | some x => pushI l x
    | none => b :: a :: l
/-- the list behind so many instructions, the last one first -/
def runI (code : List Ins) : List Ins := code.foldl (fun l i => pushI l (plI i)) []
def fold (code : List Ins) : List Ins := (runI code).reverse
def pasP (p : Pg) : Pg := ⟨p.ins, p.regs, fold p.code, p.outs⟩

theorem runI_take (l : List Ins) (k : Nat) (h : k < l.length) : runI (l.take (k + 1)) = pushI (runI (l.take k)) (plI (cd l k)) := by
  unfold runI
  rw [List.take_succ_eq_append_getElem h, cd_lt h, List.foldl_append]
  rfl
theorem pushI_nothing (l : List Ins) (b : Ins) (h : noB b = true) : pushI l b = l := by cases l <;> simp [pushI, h]
theorem pushI_nil (b : Ins) (h : noB b = false) : pushI [] b = [b] := by simp [pushI, h]
theorem pushI_melt (a : Ins) (l : List Ins) (b x : Ins) (h : noB b = false) (hm : meI a b = some x) : pushI (a :: l) b = pushI l x := by simp [pushI, h, hm]
theorem pushI_stay (a : Ins) (l : List Ins) (b : Ins) (h : noB b = false) (hm : meI a b = none) : pushI (a :: l) b = b :: a :: l := by simp [pushI, h, hm]
theorem pushI_length (l : List Ins) : ∀ b, (pushI l b).length ≤ l.length + 1 := by
  induction l with
  | nil => intro b; cases h : noB b <;> simp [pushI, h]
  | cons a l ih =>
    intro b
    cases h : noB b with
    | true => rw [pushI_nothing _ _ h]; omega
    | false =>
      cases hm : meI a b with
      | none => rw [pushI_stay _ _ _ h hm]; simp
      | some x => rw [pushI_melt _ _ _ _ h hm]; have := ih x; simp only [List.length_cons]; omega
theorem runI_length (l : List Ins) : ∀ k, (runI (l.take k)).length ≤ k := by
  intro k
  induction k with
  | zero => simp [runI]
  | succ k ih =>
    by_cases h : k < l.length
    · rw [runI_take l k h]; have := pushI_length (runI (l.take k)) (plI (cd l k)); omega
    · rw [List.take_of_length_le (by omega)]; rw [List.take_of_length_le (by omega)] at ih; omega
theorem runI_all (l : List Ins) : runI (l.take l.length) = runI l := by rw [List.take_length]

/-- what may be, by cases -/
theorem may_iff (i : Ins) (r : Int) : mayB i r = true ↔ ((1 ≤ i.op ∧ i.op ≤ 4 ∧ i.c = 0) ∨ ((i.op = 5 ∨ i.op = 6) ∧ -512 ≤ i.c ∧ i.c ≤ 512 ∧ i.c ≠ 0) ∨ ((i.op = 7 ∨ i.op = 8) ∧ 1 ≤ i.c ∧ i.c ≤ 64)) ∧ (0 ≤ i.to ∧ i.to < r) ∧ (0 ≤ i.a ∧ i.a < r) ∧ (0 ≤ i.b ∧ i.b < r) ∧ (i.b = 0 ∨ i.op = 3 ∨ i.op = 4) := by
  unfold mayB constB regB twoB
  by_cases h1 : i.op = 1 ∨ i.op = 2 ∨ i.op = 3 ∨ i.op = 4
  · simp only [if_pos h1, Bool.and_eq_true, Bool.or_eq_true, decide_eq_true_eq]; omega
  · by_cases h2 : i.op = 5 ∨ i.op = 6
    · simp only [if_neg h1, if_pos h2, Bool.and_eq_true, Bool.or_eq_true, decide_eq_true_eq]; omega
    · by_cases h3 : i.op = 7 ∨ i.op = 8
      · simp only [if_neg h1, if_neg h2, if_pos h3, Bool.and_eq_true, Bool.or_eq_true, decide_eq_true_eq]; omega
      · simp only [if_neg h1, if_neg h2, if_neg h3, Bool.and_eq_true, Bool.or_eq_true, decide_eq_true_eq]
        constructor
        · intro h; simp at h
        · intro h; omega
theorem plI_may {i : Ins} {r : Int} (h : mayB i r = true) : mayB (plI i) r = true := by
  rw [may_iff] at h ⊢
  have hp := p2_bounds i.c
  unfold plI
  split
  · split
    · dsimp only; omega
    · split
      · dsimp only; omega
      · split
        · dsimp only; omega
        · exact h
  · split
    · dsimp only; omega
    · exact h
theorem plI_idem (i : Ins) : plI (plI i) = plI i := by
  have hp := p2_bounds i.c
  by_cases h1 : i.op = 5 ∨ i.op = 6
  · by_cases h2 : i.c = 1
    · rw [show plI i = ⟨1, i.to, i.a, 0, 0⟩ by unfold plI; simp [h1, h2]]; rfl
    · by_cases h3 : i.c = -1
      · rw [show plI i = ⟨2, i.to, i.a, 0, 0⟩ by unfold plI; simp [h1, h3]]; rfl
      · by_cases h4 : 0 < p2 i.c
        · rw [show plI i = ⟨i.op + 2, i.to, i.a, 0, p2 i.c⟩ by unfold plI; simp [h1, h2, h3, h4]]
          unfold plI
          rw [if_neg (by dsimp only; omega), if_neg (by dsimp only; omega)]
        · have e : plI i = i := by unfold plI; simp [h1, h2, h3, h4]
          rw [e, e]
  · by_cases h2 : i.op = 3 ∧ i.a = i.b
    · rw [show plI i = ⟨7, i.to, i.a, 0, 1⟩ by unfold plI; rw [if_neg h1, if_pos h2]]; rfl
    · have e : plI i = i := by unfold plI; rw [if_neg h1, if_neg h2]
      rw [e, e]
/-- constants that may be -/
def OkC (o c : Int) : Prop := (1 ≤ o ∧ o ≤ 2 ∧ c = 0) ∨ ((o = 5 ∨ o = 6) ∧ -512 ≤ c ∧ c ≤ 512 ∧ c ≠ 0) ∨ ((o = 7 ∨ o = 8) ∧ 1 ≤ c ∧ c ≤ 64)
theorem tdiv_ok {x y : Int} (hx : -512 ≤ x) (hx' : x ≤ 512) (h0 : x ≠ 0) (h : x.tmod y = 0) : -512 ≤ x.tdiv y ∧ x.tdiv y ≤ 512 ∧ x.tdiv y ≠ 0 := by
  have h1 := Int.natAbs_tdiv_le_natAbs x y
  have h2 := Int.tmod_add_mul_tdiv x y
  refine ⟨by omega, by omega, fun h3 => ?_⟩
  rw [h, h3] at h2
  simp at h2
  exact h0 h2.symm
theorem tog_ok {ao ac bo bc : Int} {x : Int × Int} (ha : OkC ao ac ∨ ao = 3 ∨ ao = 4) (hb : OkC bo bc) (h : tog ao ac bo bc = some x) : OkC x.1 x.2 := by
  unfold OkC at ha hb ⊢
  unfold tog at h
  by_cases h1 : ao = 1
  · rw [if_pos h1, Option.some.injEq] at h; subst h; exact hb
  rw [if_neg h1] at h
  by_cases h2 : ao = 2
  · rw [if_pos h2] at h
    by_cases k1 : bo = 1
    · rw [if_pos k1, Option.some.injEq] at h; subst h; dsimp only; omega
    rw [if_neg k1] at h
    by_cases k2 : bo = 2
    · rw [if_pos k2, Option.some.injEq] at h; subst h; dsimp only; omega
    rw [if_neg k2] at h
    by_cases k3 : bo = 5 ∨ bo = 6
    · rw [if_pos k3, Option.some.injEq] at h; subst h; dsimp only; omega
    · rw [if_neg k3] at h; cases h
  rw [if_neg h2] at h
  by_cases h5 : ao = 5
  · rw [if_pos h5] at h
    by_cases k1 : bo = 2
    · rw [if_pos k1, Option.some.injEq] at h; subst h; dsimp only; omega
    rw [if_neg k1] at h
    by_cases k2 : bo = 5
    · rw [if_pos k2] at h
      unfold ifT at h
      by_cases k3 : conB (ac * bc) = true
      · rw [if_pos k3, Option.some.injEq] at h; subst h; dsimp only
        have k3' : -512 ≤ ac * bc ∧ ac * bc ≤ 512 := by unfold conB at k3; simpa using k3
        have : ac * bc ≠ 0 := Int.mul_ne_zero (by omega) (by omega)
        omega
      · rw [if_neg k3] at h; cases h
    rw [if_neg k2] at h
    by_cases k3 : bo = 6
    · rw [if_pos k3] at h
      unfold quoT at h
      by_cases k4 : ac.tmod bc = 0
      · rw [if_pos k4, Option.some.injEq] at h; subst h; dsimp only
        have := tdiv_ok (x := ac) (y := bc) (by omega) (by omega) (by omega) k4
        omega
      rw [if_neg k4] at h
      by_cases k5 : bc.tmod ac = 0
      · rw [if_pos k5, Option.some.injEq] at h; subst h; dsimp only
        have := tdiv_ok (x := bc) (y := ac) (by omega) (by omega) (by omega) k5
        omega
      · rw [if_neg k5] at h; cases h
    · rw [if_neg k3] at h; cases h
  rw [if_neg h5] at h
  by_cases h6 : ao = 6
  · rw [if_pos h6] at h
    by_cases k1 : bo = 2
    · rw [if_pos k1, Option.some.injEq] at h; subst h; dsimp only; omega
    rw [if_neg k1] at h
    by_cases k2 : bo = 6
    · rw [if_pos k2] at h
      unfold ifT at h
      by_cases k3 : conB (ac * bc) = true
      · rw [if_pos k3, Option.some.injEq] at h; subst h; dsimp only
        have k3' : -512 ≤ ac * bc ∧ ac * bc ≤ 512 := by unfold conB at k3; simpa using k3
        have : ac * bc ≠ 0 := Int.mul_ne_zero (by omega) (by omega)
        omega
      · rw [if_neg k3] at h; cases h
    · rw [if_neg k2] at h; cases h
  rw [if_neg h6] at h
  by_cases h7 : ao = 7
  · rw [if_pos h7] at h
    by_cases k1 : bo = 7
    · rw [if_pos k1] at h
      unfold ifT at h
      by_cases k3 : shB (ac + bc) = true
      · rw [if_pos k3, Option.some.injEq] at h; subst h; dsimp only
        have k3' : ac + bc ≤ 64 := by unfold shB at k3; simpa using k3
        omega
      · rw [if_neg k3] at h; cases h
    rw [if_neg k1] at h
    by_cases k2 : bo = 8
    · rw [if_pos k2] at h
      unfold difT at h
      by_cases k3 : bc < ac
      · rw [if_pos k3, Option.some.injEq] at h; subst h; dsimp only; omega
      rw [if_neg k3] at h
      by_cases k4 : ac < bc
      · rw [if_pos k4, Option.some.injEq] at h; subst h; dsimp only; omega
      · rw [if_neg k4, Option.some.injEq] at h; subst h; dsimp only; omega
    · rw [if_neg k2] at h; cases h
  rw [if_neg h7] at h
  by_cases h8 : ao = 8
  · rw [if_pos h8] at h
    by_cases k1 : bo = 8
    · rw [if_pos k1] at h
      unfold ifT at h
      by_cases k3 : shB (ac + bc) = true
      · rw [if_pos k3, Option.some.injEq] at h; subst h; dsimp only
        have k3' : ac + bc ≤ 64 := by unfold shB at k3; simpa using k3
        omega
      · rw [if_neg k3] at h; cases h
    · rw [if_neg k1] at h; cases h
  · rw [if_neg h8] at h; cases h
theorem tog_may {a b : Ins} {o c r : Int} (ha : mayB a r = true) (hb : mayB b r = true) (hc : twoB b.op = false) (ht : tog a.op a.c b.op b.c = some (o, c)) : mayB ⟨o, a.to, a.a, 0, c⟩ r = true := by
  rw [may_iff] at ha hb ⊢
  have h2 : ¬ (b.op = 3 ∨ b.op = 4) := by unfold twoB at hc; simpa using hc
  have := tog_ok (by unfold OkC; omega) (by unfold OkC; omega) ht
  unfold OkC at this
  dsimp only at this ⊢
  omega
theorem meI_no {a b : Ins} (h : ¬ (twoB b.op = false ∧ b.a = a.to ∧ b.to = a.to)) : meI a b = none := by unfold meI; rw [if_neg h]
theorem meI_none {a b : Ins} (h : tog a.op a.c b.op b.c = none) : meI a b = none := by unfold meI; rw [h]; split <;> rfl
theorem meI_some {a b : Ins} {o c : Int} (h : twoB b.op = false ∧ b.a = a.to ∧ b.to = a.to) (ht : tog a.op a.c b.op b.c = some (o, c)) : meI a b = some (plI ⟨o, a.to, a.a, 0, c⟩) := by unfold meI; rw [if_pos h, ht]; rfl
theorem meI_may {a b x : Ins} {r : Int} (ha : mayB a r = true) (hb : mayB b r = true) (h : meI a b = some x) : mayB x r = true ∧ plI x = x := by
  unfold meI at h
  by_cases hc : twoB b.op = false ∧ b.a = a.to ∧ b.to = a.to
  · rw [if_pos hc] at h
    cases ht : tog a.op a.c b.op b.c with
    | none => rw [ht] at h; cases h
    | some y =>
      rw [ht, Option.map_some, Option.some.injEq] at h
      subst h
      refine ⟨plI_may ?_, plI_idem _⟩
      rw [may_iff] at ha hb ⊢
      have h2 : ¬ (b.op = 3 ∨ b.op = 4) := by have := hc.1; unfold twoB at this; simpa using this
      have := tog_ok (by unfold OkC; omega) (by unfold OkC; omega) ht
      unfold OkC at this
      dsimp only
      omega
  · rw [if_neg hc] at h; cases h
/-- a list (the last one first) in which all are plain, do something, and no two melt -/
def Red : List Ins → Prop
  | [] => True
  | [b] => plI b = b ∧ noB b = false
  | b :: a :: l => plI b = b ∧ noB b = false ∧ meI a b = none ∧ Red (a :: l)
theorem Red.tail {a : Ins} {l : List Ins} (h : Red (a :: l)) : Red l := by cases l with
  | nil => trivial
  | cons c l => exact h.2.2.2
theorem Red.head {a : Ins} {l : List Ins} (h : Red (a :: l)) : plI a = a ∧ noB a = false := by cases l with
  | nil => exact h
  | cons c l => exact ⟨h.1, h.2.1⟩
theorem push_red {r : Int} (l : List Ins) : ∀ b, Red l → (∀ i ∈ l, mayB i r = true) → mayB b r = true → plI b = b → Red (pushI l b) ∧ ∀ i ∈ pushI l b, mayB i r = true := by
  induction l with
  | nil =>
    intro b _ _ hb hp
    cases h : noB b with
    | true => rw [pushI_nothing _ _ h]; exact ⟨trivial, by simp⟩
    | false => rw [pushI_nil _ h]; exact ⟨⟨hp, h⟩, by simpa using hb⟩
  | cons a l ih =>
    intro b hr hm hb hp
    cases h : noB b with
    | true => rw [pushI_nothing _ _ h]; exact ⟨hr, hm⟩
    | false =>
      cases hx : meI a b with
      | none =>
        rw [pushI_stay _ _ _ h hx]
        refine ⟨⟨hp, h, hx, hr⟩, fun i hi => ?_⟩
        rcases List.mem_cons.1 hi with rfl | hi
        · exact hb
        · exact hm i hi
      | some x =>
        rw [pushI_melt _ _ _ _ h hx]
        obtain ⟨k1, k2⟩ := meI_may (hm a (by simp)) hb hx
        exact ih x hr.tail (fun i hi => hm i (by simp [hi])) k1 k2
theorem run_red {r : Int} (l : List Ins) (hl : ∀ i ∈ l, mayB i r = true) : Red (runI l) ∧ ∀ i ∈ runI l, mayB i r = true := by
  have : ∀ (l m : List Ins), (∀ i ∈ l, mayB i r = true) → Red m → (∀ i ∈ m, mayB i r = true) → Red (l.foldl (fun l i => pushI l (plI i)) m) ∧ ∀ i ∈ l.foldl (fun l i => pushI l (plI i)) m, mayB i r = true := by
    intro l
    induction l with
    | nil => intro m _ h1 h2; exact ⟨h1, h2⟩
    | cons a l ih =>
      intro m h0 h1 h2
      obtain ⟨k1, k2⟩ := push_red m (plI a) h1 h2 (plI_may (h0 a (by simp))) (plI_idem a)
      exact ih _ (fun i hi => h0 i (by simp [hi])) k1 k2
  exact this l [] hl trivial (by simp)
/-- the pass of what the pass made is that again -/
theorem run_again (l : List Ins) (h : Red l) : runI l.reverse = l := by
  induction l with
  | nil => rfl
  | cons a l ih =>
    have e := ih h.tail
    have : runI (a :: l).reverse = pushI (runI l.reverse) (plI a) := by unfold runI; simp
    rw [this, e, h.head.1]
    cases l with
    | nil => exact pushI_nil _ h.2
    | cons c l => exact pushI_stay _ _ _ h.2.1 h.2.2.1
theorem fold_again {r : Int} (l : List Ins) (hl : ∀ i ∈ l, mayB i r = true) : fold (fold l) = fold l := by
  unfold fold; rw [run_again _ (run_red l hl).1]
theorem fold_length (l : List Ins) : (fold l).length ≤ l.length := by
  unfold fold; have := runI_length l l.length; rw [runI_all] at this; simpa using this
theorem fold_may {r : Int} (l : List Ins) (hl : ∀ i ∈ l, mayB i r = true) : ∀ i ∈ fold l, mayB i r = true := by
  intro i hi; exact (run_red l hl).2 i (by unfold fold at hi; simpa using hi)
theorem red_get : ∀ (l : List Ins) (j : Nat) (hj : j < l.length), Red l → plI l[j] = l[j] ∧ noB l[j] = false ∧ ∀ (hk : j + 1 < l.length), meI l[j + 1] l[j] = none := by
  intro l
  induction l with
  | nil => intro j hj; simp at hj
  | cons a l ih =>
    intro j hj h
    cases j with
    | zero =>
      refine ⟨h.head.1, h.head.2, fun hk => ?_⟩
      cases l with
      | nil => simp at hk
      | cons c l => exact h.2.2.1
    | succ j =>
      obtain ⟨h1, h2, h3⟩ := ih j (by simpa using hj) h.tail
      exact ⟨h1, h2, fun hk => h3 (by simpa using hk)⟩
theorem fold_get {r : Int} (l : List Ins) (hl : ∀ i ∈ l, mayB i r = true) (k : Nat) (hk : k < (fold l).length) : plI (cd (fold l) k) = cd (fold l) k ∧ noB (cd (fold l) k) = false ∧ (0 < k → meI (cd (fold l) (k - 1)) (cd (fold l) k) = none) := by
  have hr := (run_red l hl).1
  unfold fold at hk ⊢
  have hk' : k < (runI l).length := by simpa using hk
  rw [cd_lt hk, List.getElem_reverse]
  obtain ⟨h1, h2, h3⟩ := red_get (runI l) ((runI l).length - 1 - k) (by omega) hr
  refine ⟨h1, h2, fun h0 => ?_⟩
  rw [cd_lt (by omega), List.getElem_reverse]
  have := h3 (by omega)
  have e : (runI l).length - 1 - k + 1 = (runI l).length - 1 - (k - 1) := by omega
  simp only [e] at this
  exact this
end Go.Proofs.Ytclopelniopjkaa
