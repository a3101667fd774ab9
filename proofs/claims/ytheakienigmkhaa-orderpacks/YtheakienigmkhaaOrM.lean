/- Registers given anew: how long the value of each register is asked, from behind; the seats, from ahead; what is made of a program. Plain mathematics. -/
import Derived.Test.YtheakienigmkhaaPgRNeed
import Derived.Test.YtheakienigmkhaaPgRSame
import Derived.Test.YtheakienigmkhaaPgJoin1
namespace Go.Proofs.Ytheakienigmkhaa
open Go.RowKit

/-- how long the values are asked ahead of an instruction, if V says it behind -/
def ustep (V : Int → Int) (k : Nat) (i : Ins) : Int → Int :=
  if V i.to = -1 then V else fun r => if r ∈ asksL i then max (if r = i.to then -1 else V r) k else (if r = i.to then -1 else V r)
def ulast (outs : List Int) : Nat → List Ins → Int → Int
  | k, [] => fun r => if r ∈ outs then (k : Int) else -1
  | k, i :: l => ustep (ulast outs (k + 1) l) k i
/-- ahead of the k-th instruction: how long the value of each register is asked -/
def uAt (p : Pg) (k : Nat) : Int → Int := ulast p.outs k (p.code.drop k)
/-- how long what the k-th instruction sets is asked -/
def setA (p : Pg) (k : Nat) : Int := uAt p (k + 1) (cd p.code k).to
theorem uAt_end (p : Pg) (r : Int) : uAt p p.code.length r = if r ∈ p.outs then (p.code.length : Int) else -1 := by
  unfold uAt; rw [List.drop_length]; rfl
theorem uAt_step {p : Pg} {k : Nat} (h : k < p.code.length) : uAt p k = ustep (uAt p (k + 1)) k (cd p.code k) := by
  unfold uAt; rw [drop_cd _ _ h]; rfl
theorem uAt_bd (p : Pg) : ∀ d k, k + d = p.code.length → ∀ r, uAt p k r = -1 ∨ ((k : Int) ≤ uAt p k r ∧ uAt p k r ≤ p.code.length)
  | 0, k, h, r => by
    have e : k = p.code.length := by omega
    subst e
    rw [uAt_end]
    split
    · right; omega
    · left; rfl
  | d + 1, k, h, r => by
    have ih := uAt_bd p d (k + 1) (by omega)
    rw [uAt_step (by omega)]
    have h1 := ih r
    unfold ustep
    split
    · omega
    · dsimp only
      split <;> split <;> omega
theorem uAt_bound {p : Pg} {k : Nat} (h : k ≤ p.code.length) (r : Int) : uAt p k r = -1 ∨ ((k : Int) ≤ uAt p k r ∧ uAt p k r ≤ p.code.length) :=
  uAt_bd p (p.code.length - k) k (by omega) r
theorem uAt_idle {p : Pg} {k : Nat} (h : k < p.code.length) (hn : setA p k = -1) : uAt p k = uAt p (k + 1) := by
  rw [uAt_step h]; unfold ustep; exact if_pos hn
theorem uAt_need {p : Pg} {k : Nat} (h : k < p.code.length) (hn : setA p k ≠ -1) (r : Int) :
    uAt p k r = if r ∈ asksL (cd p.code k) then max (if r = (cd p.code k).to then -1 else uAt p (k + 1) r) k else (if r = (cd p.code k).to then -1 else uAt p (k + 1) r) := by
  rw [uAt_step h]; unfold ustep; rw [if_neg (show uAt p (k + 1) (cd p.code k).to ≠ -1 from hn)]
theorem uAt_ask {p : Pg} {k : Nat} (h : k < p.code.length) (hn : setA p k ≠ -1) {r : Int} (hr : r ∈ asksL (cd p.code k)) : (k : Int) ≤ uAt p k r := by
  rw [uAt_need h hn, if_pos hr]; omega
theorem uAt_other {p : Pg} {k : Nat} (h : k < p.code.length) (hn : setA p k ≠ -1) {r : Int} (hr : r ≠ (cd p.code k).to) (hu : uAt p (k + 1) r ≠ -1) : uAt p k r = uAt p (k + 1) r := by
  have h1 := uAt_bound (p := p) (k := k + 1) (by omega) r
  rw [uAt_need h hn, if_neg hr]
  split <;> omega
theorem uAt_gt {p : Pg} {k : Nat} (h : k < p.code.length) (hn : setA p k ≠ -1) {r : Int} (hu : (k : Int) + 1 ≤ uAt p k r) : r ≠ (cd p.code k).to ∧ uAt p (k + 1) r = uAt p k r := by
  rw [uAt_need h hn] at hu ⊢
  by_cases e : r = (cd p.code k).to
  · rw [if_pos e] at hu
    exfalso
    split at hu <;> omega
  · refine ⟨e, ?_⟩
    rw [if_neg e] at hu ⊢
    split at hu <;> rename_i h2
    · rw [if_pos h2]; omega
    · rw [if_neg h2]
theorem uAt_eq {p : Pg} {k : Nat} (h : k < p.code.length) {r : Int} (hu : uAt p k r = k) : setA p k ≠ -1 ∧ r ∈ asksL (cd p.code k) := by
  have h1 := uAt_bound (p := p) (k := k + 1) (by omega) r
  by_cases hn : setA p k = -1
  · rw [uAt_idle h hn] at hu
    omega
  · refine ⟨hn, ?_⟩
    rw [uAt_need h hn] at hu
    by_cases hm : r ∈ asksL (cd p.code k)
    · exact hm
    · rw [if_neg hm] at hu
      split at hu <;> omega
theorem setA_bound {p : Pg} {k : Nat} (h : k < p.code.length) : setA p k = -1 ∨ ((k : Int) + 1 ≤ setA p k ∧ setA p k ≤ p.code.length) := by
  have h1 := uAt_bound (p := p) (k := k + 1) (by omega) (cd p.code k).to
  unfold setA
  omega
/-- what is needed, by the lives -/
theorem need_u (outs : List Int) (l : List Ins) : ∀ k r, (need (outsW outs) l).2 r = decide (ulast outs k l r ≠ -1) := by
  induction l with
  | nil =>
    intro k r
    simp only [need, outsW, ulast]
    by_cases h : r ∈ outs <;> simp [h]
  | cons i l ih =>
    intro k r
    simp only [need, ulast]
    have i1 := ih (k + 1) i.to
    have i2 := ih (k + 1) r
    unfold nback ustep
    rw [i1]
    by_cases h : ulast outs (k + 1) l i.to = -1
    · simp only [h, ne_eq, not_true_eq_false, decide_false, Bool.false_eq_true, if_false, if_true]
      exact i2
    · simp only [h, ne_eq, not_false_eq_true, decide_true, if_true, if_false]
      rw [i2]
      by_cases h1 : r ∈ asksL i
      · simp only [h1, decide_true, Bool.true_or, if_true]
        symm
        simp only [decide_eq_true_eq]
        split <;> omega
      · simp only [h1, decide_false, Bool.false_or, if_false]
        by_cases h2 : r = i.to
        · simp [h2]
        · simp [h2]
theorem ndL_get (p : Pg) {k : Nat} (h : k < p.code.length) : bl (ndL p) k = decide (setA p k ≠ -1) := by
  show (ndL p).getD k false = _
  unfold ndL
  rw [need_get _ _ _ h, need_u p.outs _ (k + 1)]
  rfl

/-! the seats -/
/-- of the inputs, and then of the 0 of all other registers, after m registers: how long it is asked -/
def fstL (p : Pg) : Nat → List Int
  | 0 => List.replicate (p.ins.toNat + 1) (-1)
  | m + 1 => (fstL p m).set (min m p.ins.toNat) (max (ot (fstL p m) (min m p.ins.toNat)) (uAt p 0 m))
def fst_ (p : Pg) : List Int := fstL p p.regs.toNat
structure PS where
  of : List Int
  un : List Int
  code : List Ins
def ofL (p : Pg) (m : Nat) : List Int := (List.range m).map (fun r : Nat => (min r p.ins.toNat : Nat))
def ps0 (p : Pg) : PS := ⟨ofL p p.regs.toNat, (fst_ p).take p.regs.toNat ++ List.replicate (p.regs.toNat - (p.ins.toNat + 1)) (-1), []⟩
def mvd (i : Ins) (t : Int) (of : List Int) : Ins := ⟨i.op, t, ot of i.a.toNat, if twoB i.op = true then ot of i.b.toNat else 0, i.c⟩
def seatOf (un : List Int) (k : Nat) : Nat := un.findIdx (fun u => decide (u ≤ (k : Int)))
def pstep (p : Pg) (k : Nat) (s : PS) : PS :=
  if setA p k = -1 then s else ⟨s.of.set (cd p.code k).to.toNat (seatOf s.un k : Nat), s.un.set (seatOf s.un k) (setA p k), s.code ++ [mvd (cd p.code k) (seatOf s.un k : Nat) s.of]⟩
def psAt (p : Pg) : Nat → PS
  | 0 => ps0 p
  | k + 1 => pstep p k (psAt p k)
def mxL (l : List Int) : Int := l.foldl max 0
def regsOf (ins : Int) (code : List Ins) (outs : List Int) : Int := code.foldl (fun m i => max m (max i.to (mxL (asksL i)))) (max (ins - 1) (mxL outs)) + 1
def pkOuts (p : Pg) : List Int := p.outs.map (fun r => ot (psAt p p.code.length).of r.toNat)
def packP (p : Pg) : Pg := ⟨p.ins, regsOf p.ins (psAt p p.code.length).code (pkOuts p), (psAt p p.code.length).code, pkOuts p⟩
/-! what is kept while the seats are given -/
theorem ot_setI {l : List Int} {j : Nat} {v : Int} {r : Nat} : ot (l.set j v) r = if j = r ∧ r < l.length then v else ot l r := by
  unfold ot
  by_cases h : j = r
  · subst h
    by_cases h2 : j < l.length
    · simp [h2]
    · simp [h2]
  · simp [List.getD_eq_getElem?_getD, List.getElem?_set_ne h, h]
theorem ot_out {l : List Int} {r : Nat} (h : l.length ≤ r) : ot l r = 0 := by unfold ot; simp [List.getD_eq_getElem?_getD, h]
theorem ot_map_range {f : Nat → Int} {n r : Nat} (h : r < n) : ot ((List.range n).map f) r = f r := by unfold ot; simp [List.getD_eq_getElem?_getD, h]
theorem ot_app_l {l m : List Int} {r : Nat} (h : r < l.length) : ot (l ++ m) r = ot l r := by unfold ot; rw [List.getD_eq_getElem?_getD, List.getD_eq_getElem?_getD, List.getElem?_append_left h]
theorem ot_app_r {l m : List Int} {r : Nat} (h : l.length ≤ r) : ot (l ++ m) r = ot m (r - l.length) := by unfold ot; rw [List.getD_eq_getElem?_getD, List.getD_eq_getElem?_getD, List.getElem?_append_right h]
theorem ot_take {l : List Int} {n r : Nat} (h : r < n) : ot (l.take n) r = ot l r := by unfold ot; simp [List.getD_eq_getElem?_getD, h]
theorem ot_rep {n r : Nat} {v : Int} (h : r < n) : ot (List.replicate n v) r = v := by unfold ot; simp [List.getD_eq_getElem?_getD, h]
theorem fstL_length (p : Pg) : ∀ m, (fstL p m).length = p.ins.toNat + 1
  | 0 => by simp [fstL]
  | m + 1 => by simp [fstL, fstL_length p m]
theorem fstL_in (p : Pg) (j : Nat) (hj : j < p.ins.toNat) : ∀ m, ot (fstL p m) j = if j < m then uAt p 0 j else -1
  | 0 => by simp only [fstL, Nat.not_lt_zero, if_false]; exact ot_rep (by omega)
  | m + 1 => by
    have ih := fstL_in p j hj m
    have hb := uAt_bound (p := p) (k := 0) (Nat.zero_le _) j
    simp only [fstL, ot_setI, fstL_length]
    by_cases e : m = j
    · subst e
      rw [if_pos (by omega), if_pos (by omega), Nat.min_eq_left (by omega), ih, if_neg (by omega)]
      omega
    · rw [if_neg (by omega), ih]
      by_cases h2 : j < m
      · rw [if_pos h2, if_pos (by omega)]
      · rw [if_neg h2, if_neg (by omega)]
theorem fstL_zero (p : Pg) : ∀ m, -1 ≤ ot (fstL p m) p.ins.toNat ∧ (∀ r : Nat, p.ins.toNat ≤ r → r < m → uAt p 0 r ≤ ot (fstL p m) p.ins.toNat) ∧ (0 ≤ ot (fstL p m) p.ins.toNat → ∃ r : Nat, p.ins.toNat ≤ r ∧ r < m ∧ uAt p 0 r = ot (fstL p m) p.ins.toNat)
  | 0 => by
    have e : ot (fstL p 0) p.ins.toNat = -1 := ot_rep (by omega)
    rw [e]
    exact ⟨by omega, fun r _ h => by omega, fun h => by omega⟩
  | m + 1 => by
    obtain ⟨i0, i1, i2⟩ := fstL_zero p m
    have e : ot (fstL p (m + 1)) p.ins.toNat = if p.ins.toNat ≤ m then max (ot (fstL p m) p.ins.toNat) (uAt p 0 m) else ot (fstL p m) p.ins.toNat := by
      simp only [fstL, ot_setI, fstL_length]
      by_cases h : p.ins.toNat ≤ m
      · rw [if_pos ⟨by omega, by omega⟩, if_pos h, Nat.min_eq_right h]
      · rw [if_neg (by omega), if_neg h]
    rw [e]
    by_cases h : p.ins.toNat ≤ m
    · rw [if_pos h]
      refine ⟨by omega, fun r h1 h2 => ?_, fun h0 => ?_⟩
      · by_cases e2 : r = m
        · subst e2; omega
        · have := i1 r h1 (by omega); omega
      · by_cases hm : uAt p 0 m ≤ ot (fstL p m) p.ins.toNat
        · obtain ⟨r, h1, h2, h3⟩ := i2 (by omega)
          exact ⟨r, h1, by omega, by omega⟩
        · exact ⟨m, h, by omega, by omega⟩
    · rw [if_neg h]
      refine ⟨i0, fun r h1 h2 => by omega, fun h0 => ?_⟩
      obtain ⟨r, h1, h2, h3⟩ := i2 h0
      omega
/-- a list without twins within another one is no longer -/
theorem nodup_len : ∀ (l m : List Nat), l.Nodup → (∀ x ∈ l, x ∈ m) → l.length ≤ m.length
  | [], _, _, _ => by simp
  | a :: l, m, hn, hs => by
    obtain ⟨ha, hl⟩ := List.nodup_cons.1 hn
    have hm := hs a (by simp)
    have ih := nodup_len l (m.erase a) hl (fun x hx => (List.mem_erase_of_ne (by rintro rfl; exact ha hx)).2 (hs x (by simp [hx])))
    rw [List.length_erase_of_mem hm] at ih
    have : 0 < m.length := List.length_pos_of_mem hm
    simp only [List.length_cons]
    omega
theorem pigeon {N t : Nat} {f : Nat → Nat} (ht : t < N) (h : ∀ R, R < N → ∃ r, r < N ∧ r ≠ t ∧ f r = R) : False := by
  have hl := nodup_len (List.range N) (((List.range N).erase t).map f) List.nodup_range (fun R hR => by
    obtain ⟨r, h1, h2, h3⟩ := h R (by simpa using hR)
    exact List.mem_map.2 ⟨r, (List.mem_erase_of_ne h2).2 (by simpa using h1), h3⟩)
  rw [List.length_map, List.length_erase_of_mem (by simpa using ht), List.length_range] at hl
  omega
/-- what stands ahead of the k-th instruction -/
structure PInv (p : Pg) (k : Nat) (s : PS) : Prop where
  lo : s.of.length = p.regs.toNat
  lu : s.un.length = p.regs.toNat
  ofR : ∀ r, r < p.regs.toNat → 0 ≤ ot s.of r ∧ ot s.of r < p.regs
  C : ∀ r : Nat, r < p.regs.toNat → uAt p k r ≠ -1 → uAt p k r ≤ ot s.un (ot s.of r).toNat
  D : ∀ R : Nat, R < p.regs.toNat → (k : Int) ≤ ot s.un R → ∃ r : Nat, r < p.regs.toNat ∧ ot s.of r = R ∧ uAt p k r = ot s.un R
theorem ps0_un {p : Pg} {R : Nat} (hR : R < p.regs.toNat) : ot (ps0 p).un R = if R ≤ p.ins.toNat then ot (fst_ p) R else -1 := by
  have hl : (fst_ p).length = p.ins.toNat + 1 := fstL_length p _
  simp only [ps0]
  by_cases h : R ≤ p.ins.toNat
  · rw [if_pos h, ot_app_l (by rw [List.length_take]; omega), ot_take hR]
  · rw [if_neg h, ot_app_r (by rw [List.length_take]; omega), ot_rep (by rw [List.length_take]; omega)]
theorem PInv.start {p : Pg} (hr : rightB p = true) : PInv p 0 (psAt p 0) := by
  obtain ⟨p1, p2, p3, _⟩ := right_parts hr
  have hl : (fst_ p).length = p.ins.toNat + 1 := fstL_length p _
  have hof : ∀ r, r < p.regs.toNat → ot (ps0 p).of r = (min r p.ins.toNat : Nat) := fun r h => ot_map_range h
  have hz := fstL_zero p p.regs.toNat
  refine ⟨by simp [psAt, ps0, ofL], by simp [psAt, ps0, hl]; omega, fun r h => ?_, fun r h hu => ?_, fun R h hu => ?_⟩
  · show 0 ≤ ot (ps0 p).of r ∧ ot (ps0 p).of r < p.regs
    rw [hof r h]; omega
  · show uAt p 0 r ≤ ot (ps0 p).un (ot (ps0 p).of r).toNat
    rw [hof r h, Int.toNat_natCast, ps0_un (by omega), if_pos (by omega)]
    by_cases h1 : r < p.ins.toNat
    · rw [Nat.min_eq_left (by omega)]
      unfold fst_
      rw [fstL_in p r h1, if_pos h]; omega
    · rw [Nat.min_eq_right (by omega)]
      exact hz.2.1 r (by omega) h
  · replace hu : (0 : Int) ≤ ot (ps0 p).un R := hu
    show ∃ r : Nat, r < p.regs.toNat ∧ ot (ps0 p).of r = R ∧ uAt p 0 r = ot (ps0 p).un R
    rw [ps0_un h] at hu ⊢
    by_cases h1 : R ≤ p.ins.toNat
    · rw [if_pos h1] at hu ⊢
      by_cases h2 : R < p.ins.toNat
      · refine ⟨R, h, by rw [hof R h]; omega, ?_⟩
        unfold fst_
        rw [fstL_in p R h2, if_pos h]
      · have e : R = p.ins.toNat := by omega
        subst e
        obtain ⟨r, q1, q2, q3⟩ := hz.2.2 hu
        exact ⟨r, q2, by rw [hof r q2]; omega, q3⟩
    · rw [if_neg h1] at hu
      omega
theorem asks_mem {i : Ins} {r : Int} (h : r ∈ asksL i) : r = i.a ∨ r = i.b := by
  unfold asksL at h
  split at h
  · simpa using h
  · split at h
    · left; simpa using h
    · simp at h
theorem to_toNat {p : Pg} (hr : rightB p = true) {k : Nat} (h : k < p.code.length) : ((cd p.code k).to.toNat : Int) = (cd p.code k).to ∧ (cd p.code k).to.toNat < p.regs.toNat := by
  have := may_parts ((right_parts hr).2.2.2.2.2.2.2 k h)
  omega
theorem ask_toNat {p : Pg} (hr : rightB p = true) {k : Nat} (h : k < p.code.length) {r : Int} (hm : r ∈ asksL (cd p.code k)) : ((r.toNat : Nat) : Int) = r ∧ r.toNat < p.regs.toNat := by
  have := may_parts ((right_parts hr).2.2.2.2.2.2.2 k h)
  rcases asks_mem hm with rfl | rfl <;> omega
theorem out_toNat {p : Pg} (hr : rightB p = true) {r : Int} (hm : r ∈ p.outs) : ((r.toNat : Nat) : Int) = r ∧ r.toNat < p.regs.toNat := by
  obtain ⟨k, hk, rfl⟩ := List.mem_iff_getElem.1 hm
  have := (right_parts hr).2.2.2.2.2.2.1 k hk
  have e : ot p.outs k = p.outs[k] := by unfold ot; simp [hk]
  omega
/-- there is a seat -/
theorem PInv.seat {p : Pg} (hr : rightB p = true) {k : Nat} {s : PS} (h : PInv p k s) (hk : k < p.code.length) (hn : setA p k ≠ -1) :
    seatOf s.un k < p.regs.toNat ∧ ot s.un (seatOf s.un k) ≤ k ∧ ∀ R, R < seatOf s.un k → (k : Int) + 1 ≤ ot s.un R := by
  have hlt : seatOf s.un k < s.un.length := by
    unfold seatOf
    rw [List.findIdx_lt_length]
    false_or_by_contra
    rename_i hno
    have ht := to_toNat hr hk
    refine pigeon (f := fun r => (ot s.of r).toNat) ht.2 (fun R hR => ?_)
    have hu : (k : Int) + 1 ≤ ot s.un R := by
      false_or_by_contra
      refine hno ⟨s.un[R]'(by rw [h.lu]; exact hR), List.getElem_mem _, ?_⟩
      have e : ot s.un R = s.un[R]'(by rw [h.lu]; exact hR) := by unfold ot; simp [h.lu, hR]
      simp only [decide_eq_true_eq]
      omega
    obtain ⟨r, q1, q2, q3⟩ := h.D R hR (by omega)
    have q4 := (uAt_gt hk hn (r := r) (by omega)).1
    exact ⟨r, q1, fun e => q4 (by rw [e]; exact ht.1), by simp only [q2]; simp⟩
  have e : ∀ R (hR : R < s.un.length), ot s.un R = s.un[R] := fun R hR => by unfold ot; simp [hR]
  refine ⟨by rw [← h.lu]; exact hlt, ?_, fun R hR => ?_⟩
  · rw [e _ hlt]
    exact of_decide_eq_true (List.findIdx_getElem (w := hlt))
  · have h6 := List.not_of_lt_findIdx hR
    rw [e R (by omega)]
    simp at h6
    omega
theorem PInv.step {p : Pg} (hr : rightB p = true) {k : Nat} {s : PS} (h : PInv p k s) (hk : k < p.code.length) : PInv p (k + 1) (pstep p k s) := by
  unfold pstep
  by_cases hn : setA p k = -1
  · rw [if_pos hn]
    have e := uAt_idle hk hn
    refine ⟨h.lo, h.lu, h.ofR, fun r q1 q2 => ?_, fun R q1 q2 => ?_⟩
    · rw [← e] at q2 ⊢; exact h.C r q1 q2
    · rw [← e]; exact h.D R q1 (by omega)
  · rw [if_neg hn]
    obtain ⟨t1, t2, t3⟩ := h.seat hr hk hn
    have ht := to_toNat hr hk
    have hb := setA_bound hk
    generalize seatOf s.un k = t at *
    have hlo := h.lo
    have hlu := h.lu
    refine ⟨by simpa using h.lo, by simpa using h.lu, fun r q1 => ?_, fun r q1 q2 => ?_, fun R q1 q2 => ?_⟩
    · simp only [ot_setI]
      have := h.ofR r q1
      split <;> omega
    · by_cases e : (cd p.code k).to.toNat = r
      · have e1 : ot (s.of.set (cd p.code k).to.toNat (t : Int)) r = t := by rw [ot_setI, if_pos ⟨e, by omega⟩]
        show uAt p (k + 1) r ≤ ot (s.un.set t (setA p k)) (ot (s.of.set (cd p.code k).to.toNat (t : Int)) r).toNat
        rw [e1, Int.toNat_natCast, ot_setI, if_pos ⟨rfl, by omega⟩]
        have e2 : (r : Int) = (cd p.code k).to := by omega
        rw [e2]
        exact Int.le_refl _
      · have e1 : ot (s.of.set (cd p.code k).to.toNat (t : Int)) r = ot s.of r := by rw [ot_setI, if_neg (fun q => e q.1)]
        show uAt p (k + 1) r ≤ ot (s.un.set t (setA p k)) (ot (s.of.set (cd p.code k).to.toNat (t : Int)) r).toNat
        rw [e1, ot_setI]
        have e2 : (r : Int) ≠ (cd p.code k).to := by omega
        have e3 := uAt_other hk hn e2 q2
        have hc := h.C r q1 (by rw [e3]; exact q2)
        have hbd := uAt_bound (p := p) (k := k + 1) (by omega) r
        rw [if_neg (fun q => by rw [q.1] at t2; omega)]
        omega
    · simp only [ot_setI] at q2 ⊢
      by_cases e : t = R
      · subst e
        refine ⟨(cd p.code k).to.toNat, ht.2, by rw [if_pos ⟨rfl, by omega⟩], ?_⟩
        rw [if_pos ⟨rfl, by omega⟩, ht.1]
        rfl
      · rw [if_neg (fun q => e q.1)] at q2 ⊢
        obtain ⟨r, r1, r2, r3⟩ := h.D R q1 (by omega)
        have r4 := uAt_gt hk hn (r := r) (by omega)
        refine ⟨r, r1, ?_, by rw [r4.2, r3]⟩
        rw [if_neg (fun q => by have := r4.1; omega), r2]
theorem psAt_inv {p : Pg} (hr : rightB p = true) : ∀ k, k ≤ p.code.length → PInv p k (psAt p k)
  | 0, _ => PInv.start hr
  | k + 1, h => (psAt_inv hr k (by omega)).step hr (by omega)
end Go.Proofs.Ytheakienigmkhaa
