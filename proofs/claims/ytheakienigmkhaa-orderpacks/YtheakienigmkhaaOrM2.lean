/- What is made is needed, and what is made of it is it again. Plain mathematics. -/
import Derived.Test.YtheakienigmkhaaOrM
namespace Go.Proofs.Ytheakienigmkhaa
open Go.RowKit

theorem pstep_code (p : Pg) (k : Nat) (s : PS) : (pstep p k s).code = s.code ++ (if setA p k = -1 then [] else [mvd (cd p.code k) (seatOf s.un k : Nat) s.of]) := by
  unfold pstep; split <;> simp
theorem psAt_pre (p : Pg) (k : Nat) : ∀ d, (psAt p k).code <+: (psAt p (k + d)).code
  | 0 => List.prefix_refl _
  | d + 1 => (psAt_pre p k d).trans (by
    show _ <+: (pstep p (k + d) (psAt p (k + d))).code
    rw [pstep_code]; exact List.prefix_append _ _)
def mN (p : Pg) (k : Nat) : Nat := (psAt p k).code.length
theorem mN_mono (p : Pg) {k j : Nat} (h : k ≤ j) : mN p k ≤ mN p j := by
  obtain ⟨d, rfl⟩ : ∃ d, j = k + d := ⟨j - k, by omega⟩
  exact (psAt_pre p k d).length_le
theorem mN_idle (p : Pg) {k : Nat} (h : setA p k = -1) : mN p (k + 1) = mN p k := by
  show (pstep p k (psAt p k)).code.length = _
  rw [pstep_code, if_pos h]; simp [mN]
theorem mN_need (p : Pg) {k : Nat} (h : setA p k ≠ -1) : mN p (k + 1) = mN p k + 1 := by
  show (pstep p k (psAt p k)).code.length = _
  rw [pstep_code, if_neg h]; simp [mN]
theorem mN_le (p : Pg) : ∀ k, mN p k ≤ k
  | 0 => by simp [mN, psAt, ps0]
  | k + 1 => by
    have := mN_le p k
    by_cases h : setA p k = -1
    · rw [mN_idle p h]; omega
    · rw [mN_need p h]; omega
theorem pk_code (p : Pg) : (packP p).code = (psAt p p.code.length).code := rfl
theorem pk_at {p : Pg} {k : Nat} (hk : k < p.code.length) (h : setA p k ≠ -1) : mN p k < (packP p).code.length ∧ cd (packP p).code (mN p k) = mvd (cd p.code k) (seatOf (psAt p k).un k : Nat) (psAt p k).of := by
  obtain ⟨d, hd⟩ : ∃ d, p.code.length = k + 1 + d := ⟨p.code.length - (k + 1), by omega⟩
  have h1 : (psAt p (k + 1)).code = (psAt p k).code ++ [mvd (cd p.code k) (seatOf (psAt p k).un k : Nat) (psAt p k).of] := by
    show (pstep p k (psAt p k)).code = _
    rw [pstep_code, if_neg h]
  obtain ⟨t, ht⟩ := psAt_pre p (k + 1) d
  have e : (packP p).code = (psAt p k).code ++ [mvd (cd p.code k) (seatOf (psAt p k).un k : Nat) (psAt p k).of] ++ t := by rw [pk_code, hd, ← ht, h1]
  rw [e]
  unfold mN
  refine ⟨by simp, ?_⟩
  unfold cd
  simp [List.getD_eq_getElem?_getD]
theorem asks_mvd (i : Ins) (t : Int) (of : List Int) : asksL (mvd i t of) = (asksL i).map (fun r => ot of r.toNat) := by
  unfold asksL mvd twoB
  dsimp only
  by_cases h : i.op = 3 ∨ i.op = 4
  · rw [if_pos h, if_pos h, if_pos (by simpa using h)]; rfl
  · rw [if_neg h, if_neg h]
    split <;> rfl
/-- the number of an instruction, among those that are needed -/
def ixP (p : Pg) (u : Int) : Int := if u < 0 then -1 else (mN p u.toNat : Nat)
theorem ixP_ge (p : Pg) {k : Nat} {u : Int} (h : (k : Int) ≤ u) : (mN p k : Int) ≤ ixP p u := by
  unfold ixP
  rw [if_neg (by omega)]
  have := mN_mono p (show k ≤ u.toNat by omega)
  omega
theorem ixP_at (p : Pg) (k : Nat) : ixP p k = (mN p k : Nat) := by unfold ixP; rw [if_neg (by omega), Int.toNat_natCast]
/-- which seats are asked, and how long, in what is made -/
theorem pk_until {p : Pg} (hr : rightB p = true) : ∀ d k, k + d = p.code.length → ∀ R, R < p.regs.toNat →
    uAt (packP p) (mN p k) R = if (k : Int) ≤ ot (psAt p k).un R then ixP p (ot (psAt p k).un R) else -1
  | 0, k, hd, R, hR => by
    have e : k = p.code.length := by omega
    subst e
    have hi := psAt_inv hr _ (Nat.le_refl p.code.length)
    have hl : mN p p.code.length = (packP p).code.length := rfl
    rw [hl, uAt_end]
    by_cases h : (p.code.length : Int) ≤ ot (psAt p p.code.length).un R
    · rw [if_pos h]
      obtain ⟨r, r1, r2, r3⟩ := hi.D R hR h
      rw [uAt_end] at r3
      by_cases hm : (r : Int) ∈ p.outs
      · rw [if_pos hm] at r3
        rw [← r3, ixP_at, if_pos]
        · rw [hl]
        · show (R : Int) ∈ pkOuts p
          exact List.mem_map.2 ⟨r, hm, by rw [Int.toNat_natCast]; exact r2⟩
      · rw [if_neg hm] at r3
        omega
    · rw [if_neg h, if_neg]
      intro hm
      obtain ⟨o, ho, he⟩ := List.mem_map.1 (show (R : Int) ∈ pkOuts p from hm)
      have hb := out_toNat hr ho
      have hc := hi.C o.toNat hb.2 (by rw [uAt_end, hb.1, if_pos ho]; omega)
      rw [uAt_end, hb.1, if_pos ho, he, Int.toNat_natCast] at hc
      omega
  | d + 1, k, hd, R, hR => by
    have hk : k < p.code.length := by omega
    have ih := pk_until hr d (k + 1) (by omega)
    have hi := psAt_inv hr k (by omega)
    by_cases hn : setA p k = -1
    · have ihR := ih R hR
      have e : psAt p (k + 1) = psAt p k := by show pstep p k (psAt p k) = _; unfold pstep; rw [if_pos hn]
      rw [mN_idle p hn, e] at ihR
      rw [ihR]
      by_cases h : (k : Int) ≤ ot (psAt p k).un R
      · by_cases h2 : ot (psAt p k).un R = k
        · exfalso
          obtain ⟨r, r1, r2, r3⟩ := hi.D R hR h
          exact (uAt_eq hk (r3.trans h2)).1 hn
        · rw [if_pos h, if_pos (by omega)]
      · rw [if_neg h, if_neg (by omega)]
    · obtain ⟨t1, t2, t3⟩ := hi.seat hr hk hn
      obtain ⟨q1, q2⟩ := pk_at hk hn
      have hb := setA_bound hk
      have e : psAt p (k + 1) = ⟨(psAt p k).of.set (cd p.code k).to.toNat (seatOf (psAt p k).un k : Nat), (psAt p k).un.set (seatOf (psAt p k).un k) (setA p k), (psAt p k).code ++ [mvd (cd p.code k) (seatOf (psAt p k).un k : Nat) (psAt p k).of]⟩ := by show pstep p k (psAt p k) = _; unfold pstep; rw [if_neg hn]
      rw [e] at ih
      rw [mN_need p hn] at ih
      have hlu := hi.lu
      have hIC := hi.C
      have hID := hi.D
      generalize seatOf (psAt p k).un k = t at *
      generalize hs : psAt p k = s at *
      dsimp only at ih
      have iht := ih t t1
      have eT : ot (s.un.set t (setA p k)) t = setA p k := by rw [ot_setI, if_pos ⟨rfl, by omega⟩]
      rw [eT, if_pos (by omega)] at iht
      have hge := ixP_ge p (show ((k + 1 : Nat) : Int) ≤ setA p k by omega)
      rw [mN_need p hn] at hge
      have hnq : setA (packP p) (mN p k) ≠ -1 := by
        unfold setA
        rw [q2]
        show uAt (packP p) (mN p k + 1) (t : Int) ≠ -1
        rw [iht]; omega
      rw [uAt_need q1 hnq, q2, asks_mvd]
      show (if (R : Int) ∈ List.map (fun r => ot s.of r.toNat) (asksL (cd p.code k)) then max (if (R : Int) = (t : Int) then -1 else uAt (packP p) (mN p k + 1) R) (mN p k : Int) else (if (R : Int) = (t : Int) then -1 else uAt (packP p) (mN p k + 1) R)) = _
      have hin : ot s.un R = k → (R : Int) ∈ List.map (fun r => ot s.of r.toNat) (asksL (cd p.code k)) := fun h => by
        obtain ⟨r, r1, r2, r3⟩ := hID R hR (by omega)
        exact List.mem_map.2 ⟨r, (uAt_eq hk (r3.trans h)).2, by rw [Int.toNat_natCast]; exact r2⟩
      have hout : (R : Int) ∈ List.map (fun r => ot s.of r.toNat) (asksL (cd p.code k)) → (k : Int) ≤ ot s.un R := fun h => by
        obtain ⟨a, ha, he⟩ := List.mem_map.1 h
        have hba := ask_toNat hr hk ha
        have hu := uAt_ask hk hn ha
        have hc := hIC a.toNat hba.2 (by rw [hba.1]; omega)
        rw [hba.1, he, Int.toNat_natCast] at hc
        omega
      by_cases hRt : R = t
      · subst hRt
        rw [if_pos rfl]
        by_cases h : ot s.un R = k
        · rw [if_pos (hin h), h, if_pos (Int.le_refl _), ixP_at]; omega
        · rw [if_neg (fun q => h (by have := hout q; omega)), if_neg (by omega)]
      · have ihR := ih R hR
        have eR : ot (s.un.set t (setA p k)) R = ot s.un R := by rw [ot_setI, if_neg (fun q => hRt q.1.symm)]
        rw [eR] at ihR
        have hRt' : ¬ (R : Int) = (t : Int) := by omega
        rw [if_neg hRt', ihR]
        by_cases h1 : ((k + 1 : Nat) : Int) ≤ ot s.un R
        · have hg := ixP_ge p h1
          rw [mN_need p hn] at hg
          rw [if_pos h1, if_pos (show (k : Int) ≤ ot s.un R by omega)]
          split <;> omega
        · rw [if_neg h1]
          by_cases h2 : ot s.un R = k
          · rw [if_pos (hin h2), h2, if_pos (Int.le_refl _), ixP_at]; omega
          · rw [if_neg (fun q => h2 (by have := hout q; omega)), if_neg (by omega)]
/-- the j-th that is left is one that was needed -/
theorem mN_onto (p : Pg) : ∀ k j, j < mN p k → ∃ i, i < k ∧ setA p i ≠ -1 ∧ mN p i = j
  | 0, j, h => by simp [mN, psAt, ps0] at h
  | k + 1, j, h => by
    by_cases hn : setA p k = -1
    · rw [mN_idle p hn] at h
      obtain ⟨i, h1, h2, h3⟩ := mN_onto p k j h
      exact ⟨i, by omega, h2, h3⟩
    · rw [mN_need p hn] at h
      by_cases e : j = mN p k
      · exact ⟨k, by omega, hn, e.symm⟩
      · obtain ⟨i, h1, h2, h3⟩ := mN_onto p k j (by omega)
        exact ⟨i, by omega, h2, h3⟩
/-- how long what is made is asked -/
theorem pk_setA {p : Pg} (hr : rightB p = true) {k : Nat} (hk : k < p.code.length) (hn : setA p k ≠ -1) : setA (packP p) (mN p k) = ixP p (setA p k) := by
  have hi := psAt_inv hr k (by omega)
  obtain ⟨t1, t2, t3⟩ := hi.seat hr hk hn
  have hb := setA_bound hk
  have h := pk_until hr (p.code.length - (k + 1)) (k + 1) (by omega) _ t1
  have e : (psAt p (k + 1)).un = (psAt p k).un.set (seatOf (psAt p k).un k) (setA p k) := by show (pstep p k (psAt p k)).un = _; unfold pstep; rw [if_neg hn]
  have eT : ot ((psAt p k).un.set (seatOf (psAt p k).un k) (setA p k)) (seatOf (psAt p k).un k) = setA p k := by rw [ot_setI, if_pos ⟨rfl, by rw [hi.lu]; exact t1⟩]
  rw [e, eT, if_pos (by omega), mN_need p hn] at h
  unfold setA
  rw [(pk_at hk hn).2]
  exact h
theorem pk_needed {p : Pg} (hr : rightB p = true) {j : Nat} (hj : j < (packP p).code.length) : bl (ndL (packP p)) j = true := by
  obtain ⟨k, h1, h2, h3⟩ := mN_onto p p.code.length j hj
  rw [ndL_get _ hj, decide_eq_true_eq, ← h3, pk_setA hr h1 h2]
  have hb := setA_bound h1
  have := ixP_ge p (show ((k + 1 : Nat) : Int) ≤ setA p k by omega)
  omega

/-! how many registers -/
theorem foldl_max_ge (l : List Int) : ∀ a, a ≤ l.foldl max a := by
  induction l with
  | nil => intro a; exact Int.le_refl _
  | cons x l ih => intro a; simp only [List.foldl_cons]; exact Int.le_trans (by omega) (ih (max a x))
theorem foldl_max_mem (l : List Int) : ∀ a, ∀ x ∈ l, x ≤ l.foldl max a := by
  induction l with
  | nil => intro a x h; simp at h
  | cons y l ih =>
    intro a x h
    rcases List.mem_cons.1 h with rfl | h
    · exact Int.le_trans (by omega) (foldl_max_ge l (max a x))
    · exact ih _ x h
theorem foldl_max_le (l : List Int) (b : Int) : ∀ a, a ≤ b → (∀ x ∈ l, x ≤ b) → l.foldl max a ≤ b := by
  induction l with
  | nil => intro a h _; exact h
  | cons y l ih => intro a h hl; exact ih _ (by have := hl y (by simp); omega) (fun x hx => hl x (by simp [hx]))
theorem mxL_mem {l : List Int} {x : Int} (h : x ∈ l) : x ≤ mxL l := foldl_max_mem l 0 x h
theorem mxL_le {l : List Int} {b : Int} (hb : 0 ≤ b) (h : ∀ x ∈ l, x ≤ b) : mxL l ≤ b := foldl_max_le l b 0 hb h
def cfold (code : List Ins) (a : Int) : Int := code.foldl (fun m i => max m (max i.to (mxL (asksL i)))) a
theorem cfold_ge (code : List Ins) : ∀ a, a ≤ cfold code a := by
  induction code with
  | nil => intro a; exact Int.le_refl _
  | cons i l ih => intro a; exact Int.le_trans (by omega) (ih (max a (max i.to (mxL (asksL i)))))
theorem cfold_mem (code : List Ins) : ∀ a, ∀ i ∈ code, max i.to (mxL (asksL i)) ≤ cfold code a := by
  induction code with
  | nil => intro a i h; simp at h
  | cons y l ih =>
    intro a i h
    rcases List.mem_cons.1 h with rfl | h
    · exact Int.le_trans (by omega) (cfold_ge l (max a (max i.to (mxL (asksL i)))))
    · exact ih _ i h
theorem cfold_le (code : List Ins) (b : Int) : ∀ a, a ≤ b → (∀ i ∈ code, max i.to (mxL (asksL i)) ≤ b) → cfold code a ≤ b := by
  induction code with
  | nil => intro a h _; exact h
  | cons y l ih =>
    intro a h hl
    refine ih _ ?_ (fun x hx => hl x (by simp [hx]))
    have := hl y (by simp)
    show max a (max y.to (mxL (asksL y))) ≤ b
    omega
theorem regsOf_cfold (ins : Int) (code : List Ins) (outs : List Int) : regsOf ins code outs = cfold code (max (ins - 1) (mxL outs)) + 1 := rfl
theorem regsOf_ins (ins : Int) (code : List Ins) (outs : List Int) : ins ≤ regsOf ins code outs := by
  have := cfold_ge code (max (ins - 1) (mxL outs)); rw [regsOf_cfold]; omega
theorem regsOf_out {ins : Int} {code : List Ins} {outs : List Int} {x : Int} (h : x ∈ outs) : x < regsOf ins code outs := by
  have := cfold_ge code (max (ins - 1) (mxL outs)); have := mxL_mem h; rw [regsOf_cfold]; omega
theorem regsOf_code {ins : Int} {code : List Ins} {outs : List Int} {i : Ins} (h : i ∈ code) : i.to < regsOf ins code outs ∧ ∀ x ∈ asksL i, x < regsOf ins code outs := by
  have h1 := cfold_mem code (max (ins - 1) (mxL outs)) i h
  rw [regsOf_cfold]
  exact ⟨by omega, fun x hx => by have := mxL_mem hx; omega⟩
theorem regsOf_le {ins b : Int} {code : List Ins} {outs : List Int} (h0 : 1 ≤ b) (h1 : ins ≤ b) (h2 : ∀ x ∈ outs, x < b) (h3 : ∀ i ∈ code, i.to < b ∧ ∀ x ∈ asksL i, x < b) : regsOf ins code outs ≤ b := by
  rw [regsOf_cfold]
  have := cfold_le code (b - 1) (max (ins - 1) (mxL outs)) (by have := mxL_le (l := outs) (b := b - 1) (by omega) (fun x hx => by have := h2 x hx; omega); omega) (fun i hi => by
    have h4 := h3 i hi
    have := mxL_le (l := asksL i) (b := b - 1) (by omega) (fun x hx => by have := h4.2 x hx; omega)
    omega)
  omega
/-- each instruction that is made comes of one that is needed -/
theorem pk_mem {p : Pg} {i : Ins} (h : i ∈ (packP p).code) : ∃ k, k < p.code.length ∧ setA p k ≠ -1 ∧ i = mvd (cd p.code k) (seatOf (psAt p k).un k : Nat) (psAt p k).of := by
  obtain ⟨j, hj, rfl⟩ := List.mem_iff_getElem.1 h
  obtain ⟨k, h1, h2, h3⟩ := mN_onto p p.code.length j hj
  refine ⟨k, h1, h2, ?_⟩
  rw [← (pk_at h1 h2).2, h3]
  unfold cd
  simp [hj]
/-- a bound of all seats is one of the registers -/
theorem pk_regs_le {p : Pg} (hr : rightB p = true) {b : Int} (h0 : p.ins ≤ b) (hof : ∀ k, k ≤ p.code.length → ∀ r, r < p.regs.toNat → uAt p k r ≠ -1 → ot (psAt p k).of r < b) (ht : ∀ k, k < p.code.length → setA p k ≠ -1 → (seatOf (psAt p k).un k : Int) < b) : (packP p).regs ≤ b := by
  have hp := right_parts hr
  refine regsOf_le (by omega) h0 (fun x hx => ?_) (fun i hi => ?_)
  · obtain ⟨o, ho, rfl⟩ := List.mem_map.1 hx
    have hb := out_toNat hr ho
    exact hof _ (Nat.le_refl _) _ hb.2 (by rw [uAt_end, hb.1, if_pos ho]; omega)
  · obtain ⟨k, h1, h2, rfl⟩ := pk_mem hi
    refine ⟨ht k h1 h2, fun x hx => ?_⟩
    rw [asks_mvd] at hx
    obtain ⟨a, ha, rfl⟩ := List.mem_map.1 hx
    have hb := ask_toNat hr h1 ha
    have := uAt_ask h1 h2 ha
    exact hof k (by omega) _ hb.2 (by rw [hb.1]; omega)
theorem pk_fewer {p : Pg} (hr : rightB p = true) : (packP p).regs ≤ p.regs := by
  have hp := right_parts hr
  exact pk_regs_le hr hp.2.1 (fun k hk r h _ => ((psAt_inv hr k hk).ofR r h).2) (fun k hk hn => by have := ((psAt_inv hr k (by omega)).seat hr hk hn).1; omega)
theorem pk_right {p : Pg} (hr : rightB p = true) : rightB (packP p) = true := by
  obtain ⟨p1, p2, p3, p4, p5, p6, p7, p8⟩ := right_parts hr
  have hf := pk_fewer hr
  have hri : p.ins ≤ (packP p).regs := regsOf_ins _ _ _
  have hlen : (packP p).code.length ≤ p.code.length := mN_le p p.code.length
  have hol : (packP p).outs.length = p.outs.length := by show (pkOuts p).length = _; simp [pkOuts]
  have hnn : ∀ k, k ≤ p.code.length → ∀ r, r < p.regs.toNat → 0 ≤ ot (psAt p k).of r := fun k hk r h => ((psAt_inv hr k hk).ofR r h).1
  unfold rightB headB numB
  simp only [Bool.and_eq_true, decide_eq_true_eq]
  have hI : (packP p).ins = p.ins := rfl
  refine ⟨⟨⟨⟨⟨⟨⟨by rw [hI]; exact p1, by rw [hI]; exact hri⟩, by omega⟩, by omega⟩, by omega⟩, by omega⟩, ?_⟩, ?_⟩
  · rw [List.all_eq_true]
    intro x hx
    have h2 := regsOf_out (ins := p.ins) (code := (psAt p p.code.length).code) (show x ∈ pkOuts p from hx)
    obtain ⟨o, ho, rfl⟩ := List.mem_map.1 (show x ∈ pkOuts p from hx)
    have hb := out_toNat hr ho
    have h1 := hnn _ (Nat.le_refl _) _ hb.2
    unfold regB
    simp only [Bool.and_eq_true, decide_eq_true_eq]
    exact ⟨h1, h2⟩
  · unfold badAt
    rw [List.findIdx_eq_length]
    intro i hi
    obtain ⟨k, h1, h2, e⟩ := pk_mem hi
    have hreg := regsOf_code (ins := p.ins) (outs := pkOuts p) (show i ∈ (psAt p p.code.length).code from hi)
    have hm := p8 k h1
    have hmp := may_parts hm
    have hasks := asks_mvd (cd p.code k) (seatOf (psAt p k).un k : Nat) (psAt p k).of
    rw [← e] at hasks
    have hnb : ∀ x ∈ asksL i, 0 ≤ x := fun x hx => by
      rw [hasks] at hx
      obtain ⟨a, ha, rfl⟩ := List.mem_map.1 hx
      exact hnn k (by omega) _ (ask_toNat hr h1 ha).2
    have hia : i.a ∈ asksL i := by
      have e1 : i.op = (cd p.code k).op := by rw [e]; rfl
      unfold asksL
      split
      · simp
      · rw [if_pos (by omega)]; simp
    have hib : (i.b = 0 ∧ twoB i.op = false) ∨ (i.b ∈ asksL i ∧ twoB i.op = true) := by
      have e1 : i.op = (cd p.code k).op := by rw [e]; rfl
      have e2 : i.b = if twoB (cd p.code k).op = true then ot (psAt p k).of (cd p.code k).b.toNat else 0 := by rw [e]; rfl
      cases ht : twoB i.op with
      | true =>
        right
        refine ⟨?_, rfl⟩
        unfold asksL
        rw [if_pos (by unfold twoB at ht; simpa using ht)]
        simp
      | false =>
        left
        rw [e2, ← e1, ht]
        exact ⟨rfl, rfl⟩
    have hc : constB i.op i.c = true := by rw [e]; exact hmp.2.2.2.2.2.2.2.2.1
    have h3 := hreg.1
    have h4 := hreg.2 _ hia
    have h5 := hnb _ hia
    have h6 : 0 ≤ i.to := by rw [e]; show (0 : Int) ≤ ((seatOf (psAt p k).un k : Nat) : Int); omega
    have hmay : mayB i (packP p).regs = true := by
      unfold mayB regB
      simp only [Bool.and_eq_true, Bool.or_eq_true, decide_eq_true_eq]
      have hR : (packP p).regs = regsOf p.ins (psAt p p.code.length).code (pkOuts p) := rfl
      rcases hib with ⟨b1, b2⟩ | ⟨b1, b2⟩
      · exact ⟨⟨hc, ⟨⟨h6, h3⟩, h5, h4⟩, by omega, by omega⟩, .inl b1⟩
      · exact ⟨⟨hc, ⟨⟨h6, h3⟩, h5, h4⟩, hnb _ b1, hreg.2 _ b1⟩, .inr b2⟩
    simp [hmay]
end Go.Proofs.Ytheakienigmkhaa
