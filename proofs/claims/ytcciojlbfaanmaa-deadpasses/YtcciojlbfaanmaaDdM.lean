/- Which instructions are idle, what is left, whose beginning is asked: in plain words. -/
import Derived.Test.YtcciojlbfaanmaaPgRNeed
import Derived.Test.YtcciojlbfaanmaaPgAsk
namespace Go.Proofs.Ytcciojlbfaanmaa
open Go.RowKit

theorem right_ofD {p : Pg} (h1 : 1 ≤ p.ins) (h2 : p.ins ≤ p.regs) (h3 : p.regs ≤ 128) (h4 : p.code.length ≤ 16384) (h5 : 1 ≤ p.outs.length) (h6 : p.outs.length ≤ 128) (h7 : ∀ r ∈ p.outs, 0 ≤ r ∧ r < p.regs) (h8 : ∀ i ∈ p.code, mayB i p.regs = true) : rightB p = true := by
  unfold rightB headB numB badAt
  simp only [Bool.and_eq_true, decide_eq_true_eq]
  refine ⟨⟨⟨⟨⟨⟨⟨h1, h2⟩, h3⟩, h4⟩, h5⟩, h6⟩, ?_⟩, ?_⟩
  · rw [List.all_eq_true]
    intro r hr
    have := h7 r hr
    unfold regB
    simp [this]
  · rw [List.findIdx_eq_length]
    intro i hi
    rw [h8 i hi]; rfl
theorem may_memD {p : Pg} (h : rightB p = true) : ∀ i ∈ p.code, mayB i p.regs = true := by
  intro i hi
  obtain ⟨k, hk, rfl⟩ := List.mem_iff_getElem.1 hi
  have := (right_parts h).2.2.2.2.2.2.2 k hk
  rwa [cd_lt hk] at this
theorem out_memD {p : Pg} (h : rightB p = true) : ∀ r ∈ p.outs, 0 ≤ r ∧ r < p.regs := by
  intro i hi
  obtain ⟨k, hk, rfl⟩ := List.mem_iff_getElem.1 hi
  have := (right_parts h).2.2.2.2.2.2.1 k hk
  rwa [ot_lt hk] at this
/-- a move of a register to itself -/
def selfB (i : Ins) : Bool := decide (i.op = 1) && decide (i.to = i.a)
def idl (W0 : Int → Bool) : List Ins → List Bool
  | [] => []
  | i :: l => (!(need W0 l).2 i.to || selfB i) :: idl W0 l
def stay (W0 : Int → Bool) : List Ins → List Ins
  | [] => []
  | i :: l => if (!(need W0 l).2 i.to || selfB i) = true then stay W0 l else i :: stay W0 l
def idL (p : Pg) : List Bool := idl (outsW p.outs) p.code
def ddP (p : Pg) : Pg := ⟨p.ins, p.regs, stay (outsW p.outs) p.code, p.outs⟩
def askd (p : Pg) : List Bool := (List.range p.regs.toNat).map (fun r : Nat => (need (outsW p.outs) p.code).2 r)
theorem idl_length (W0 : Int → Bool) (l : List Ins) : (idl W0 l).length = l.length := by
  induction l with
  | nil => rfl
  | cons i l ih => simp only [idl, List.length_cons, ih]
theorem idL_length (p : Pg) : (idL p).length = p.code.length := idl_length _ _
theorem self_asks {i : Ins} (h : selfB i = true) : asksL i = [i.to] := by
  unfold selfB at h
  simp only [Bool.and_eq_true, decide_eq_true_eq] at h
  unfold asksL
  rw [h.1, if_neg (by decide), if_pos (by decide), h.2]
theorem self_back {W : Int → Bool} {i : Ins} (h : selfB i = true) : nback W i = W := by
  unfold nback
  split
  · rename_i hw
    funext r
    rw [self_asks h]
    by_cases e : r = i.to
    · subst e; simp [hw]
    · simp [e]
  · rfl
theorem not_back {W : Int → Bool} {i : Ins} (h : W i.to = false) : nback W i = W := by
  unfold nback
  rw [if_neg (by rw [h]; simp)]
theorem idle_back {W : Int → Bool} {i : Ins} (h : (!W i.to || selfB i) = true) : nback W i = W := by
  cases hw : W i.to with
  | false => exact not_back hw
  | true => rw [hw] at h; exact self_back (by simpa using h)
theorem need_stay (W0 : Int → Bool) (l : List Ins) : need W0 (stay W0 l) = (List.replicate (stay W0 l).length true, (need W0 l).2) := by
  induction l with
  | nil => rfl
  | cons i l ih =>
    simp only [stay]
    by_cases h : (!(need W0 l).2 i.to || selfB i) = true
    · rw [if_pos h, ih]
      simp only [need, idle_back h]
    · rw [if_neg h]
      have hw : (need W0 l).2 i.to = true := by
        cases e : (need W0 l).2 i.to with
        | true => rfl
        | false => rw [e] at h; simp at h
      simp only [need, ih, hw, List.length_cons, List.replicate_succ]
theorem idl_stay (W0 : Int → Bool) (l : List Ins) : idl W0 (stay W0 l) = List.replicate (stay W0 l).length false := by
  induction l with
  | nil => rfl
  | cons i l ih =>
    simp only [stay]
    by_cases h : (!(need W0 l).2 i.to || selfB i) = true
    · rw [if_pos h]; exact ih
    · rw [if_neg h]
      have e : (!(need W0 l).2 i.to || selfB i) = false := by simpa using h
      simp only [idl, need_stay, ih, e, List.length_cons, List.replicate_succ]
theorem stay_stay (W0 : Int → Bool) (l : List Ins) : stay W0 (stay W0 l) = stay W0 l := by
  induction l with
  | nil => rfl
  | cons i l ih =>
    simp only [stay]
    by_cases h : (!(need W0 l).2 i.to || selfB i) = true
    · rw [if_pos h]; exact ih
    · rw [if_neg h]
      simp only [stay, need_stay, ih]
      rw [if_neg h]
theorem stay_mem {W0 : Int → Bool} {l : List Ins} {i : Ins} (h : i ∈ stay W0 l) : i ∈ l := by
  induction l with
  | nil => simp [stay] at h
  | cons j l ih =>
    simp only [stay] at h
    split at h
    · exact List.mem_cons_of_mem _ (ih h)
    · rcases List.mem_cons.1 h with rfl | h
      · simp
      · exact List.mem_cons_of_mem _ (ih h)
theorem stay_length (W0 : Int → Bool) (l : List Ins) : (stay W0 l).length ≤ l.length := by
  induction l with
  | nil => exact Nat.le_refl _
  | cons j l ih =>
    simp only [stay]
    split
    · simp only [List.length_cons]; omega
    · simp only [List.length_cons]; omega
theorem dd_right {p : Pg} (h : rightB p = true) : rightB (ddP p) = true := by
  obtain ⟨p1, p2, p3, p4, p5, p6, p7, p8⟩ := right_parts h
  refine right_ofD p1 p2 p3 ?_ p5 p6 (out_memD (p := p) h) ?_
  · have := stay_length (outsW p.outs) p.code
    show (stay (outsW p.outs) p.code).length ≤ 16384
    omega
  · intro i hi
    exact may_memD h i (stay_mem hi |> fun h => by simpa using h)
theorem dd_again (p : Pg) : ddP (ddP p) = ddP p := by unfold ddP; simp only [stay_stay]
theorem dd_asked (p : Pg) : askd (ddP p) = askd p := by unfold askd ddP; simp only [need_stay]
theorem dd_needed (p : Pg) : ndL (ddP p) = List.replicate (ddP p).code.length true := by unfold ndL ddP; simp only [need_stay]
theorem dd_idle (p : Pg) : idL (ddP p) = List.replicate (ddP p).code.length false := by unfold idL ddP; simp only [idl_stay]
/-- of the first k: the numbers of those that are idle; those that are left -/
def idK (p : Pg) (k : Nat) : List Nat := (List.range k).filter (fun j => bl (idL p) j)
def stK (p : Pg) (k : Nat) : List Ins := ((List.range k).filter (fun j => !bl (idL p) j)).map (fun j => cd p.code j)
theorem idK_succ (p : Pg) (k : Nat) : idK p (k + 1) = if bl (idL p) k = true then idK p k ++ [k] else idK p k := by
  unfold idK
  rw [List.range_succ, List.filter_append]
  cases h : bl (idL p) k <;> simp [h]
theorem stK_succ (p : Pg) (k : Nat) : stK p (k + 1) = if bl (idL p) k = true then stK p k else stK p k ++ [cd p.code k] := by
  unfold stK
  rw [List.range_succ, List.filter_append, List.map_append]
  cases h : bl (idL p) k <;> simp [h]
theorem stK_length (p : Pg) : ∀ k, (stK p k).length ≤ k
  | 0 => by simp [stK]
  | k + 1 => by
    rw [stK_succ]
    have := stK_length p k
    split
    · omega
    · rw [List.length_append, List.length_singleton]; omega
theorem idK_pre (p : Pg) (k : Nat) : ∀ d, idK p k <+: idK p (k + d)
  | 0 => List.prefix_refl _
  | d + 1 => by
    refine (idK_pre p k d).trans ?_
    rw [show k + (d + 1) = (k + d) + 1 from rfl, idK_succ]
    split
    · exact List.prefix_append _ _
    · exact List.prefix_refl _
theorem idK_lt {p : Pg} {k j : Nat} (h : j ∈ idK p k) : j < k ∧ bl (idL p) j = true := by
  unfold idK at h
  rw [List.mem_filter, List.mem_range] at h
  exact h
theorem len_both (b : List Bool) (n : Nat) (f : Nat → Ins) : ((List.range n).filter (fun j => bl b j)).length + (((List.range n).filter (fun j => !bl b j)).map f).length = n := by
  induction n with
  | zero => rfl
  | succ n ih =>
    rw [List.range_succ, List.filter_append, List.filter_append, List.map_append, List.length_append, List.length_append]
    cases h : bl b n <;> simp [h] <;> rw [List.length_map] at ih <;> omega
theorem stK_idK (p : Pg) (k : Nat) : (idK p k).length + (stK p k).length = k := len_both _ _ _
theorem bl_cons (x : Bool) (b : List Bool) (k : Nat) : bl (x :: b) (k + 1) = bl b k := rfl
theorem stay_all (W0 : Int → Bool) (l : List Ins) : ((List.range l.length).filter (fun j => !bl (idl W0 l) j)).map (fun j => cd l j) = stay W0 l := by
  induction l with
  | nil => rfl
  | cons i l ih =>
    rw [List.length_cons, List.range_succ_eq_map, List.filter_cons]
    have e1 : ((List.range l.length).map Nat.succ).filter (fun j => !bl (idl W0 (i :: l)) j) = ((List.range l.length).filter (fun j => !bl (idl W0 l) j)).map Nat.succ := by
      rw [List.filter_map]
      rfl
    have e2 : (((List.range l.length).filter (fun j => !bl (idl W0 l) j)).map Nat.succ).map (fun j => cd (i :: l) j) = stay W0 l := by
      rw [List.map_map, ← ih]
      exact List.map_congr_left (fun j _ => rfl)
    rw [e1]
    have h0 : bl (idl W0 (i :: l)) 0 = (!(need W0 l).2 i.to || selfB i) := rfl
    rw [h0]
    simp only [stay]
    by_cases h : (!(need W0 l).2 i.to || selfB i) = true
    · rw [if_pos h, if_neg (by rw [h]; decide)]
      exact e2
    · have e : (!(need W0 l).2 i.to || selfB i) = false := by simpa using h
      rw [if_neg h, if_pos (by rw [e]; rfl), List.map_cons, e2]
      rfl
theorem stK_all (p : Pg) : stK p p.code.length = (ddP p).code := stay_all _ _
theorem idl_get (W0 : Int → Bool) (l : List Ins) (k : Nat) (h : k < l.length) : bl (idl W0 l) k = (!bl (need W0 l).1 k || selfB (cd l k)) := by
  induction l generalizing k with
  | nil => simp at h
  | cons i l ih =>
    cases k with
    | zero => rfl
    | succ k => exact ih k (by simpa using h)
theorem idL_get (p : Pg) (k : Nat) (h : k < p.code.length) : bl (idL p) k = (!bl (ndL p) k || selfB (cd p.code k)) := idl_get _ _ _ h
/-- whether a register is asked, looking ahead -/
def fwdQ (outs : List Int) (r : Int) : List Ins → Bool
  | [] => decide (r ∈ outs)
  | i :: l => decide (r ∈ asksL i) || (!decide (i.to = r) && fwdQ outs r l)
theorem fwdQ_need (outs : List Int) (r : Int) (l : List Ins) (h : (need (outsW outs) l).1 = List.replicate l.length true) : fwdQ outs r l = (need (outsW outs) l).2 r := by
  have := fwd_need outs r l
  rw [h] at this
  rw [← this]
  clear this h
  induction l with
  | nil => rfl
  | cons i l ih => simp only [fwdQ, List.length_cons, List.replicate_succ, fwd, ih, Bool.true_and]
theorem asked_get (p : Pg) (r : Nat) (h : r < p.regs.toNat) : bl (askd p) r = fwdQ p.outs r (ddP p).code := by
  have h1 := fwdQ_need p.outs r (ddP p).code (by unfold ddP; simp only [need_stay])
  rw [h1]
  unfold ddP askd bl
  simp only [need_stay]
  rw [List.getD_eq_getElem?_getD, List.getElem?_map, List.getElem?_range h]
  rfl
theorem askd_length (p : Pg) : (askd p).length = p.regs.toNat := by simp [askd]
theorem askd_bl (p : Pg) (r : Nat) (h : r < p.regs.toNat) : bl (askd p) r = (need (outsW p.outs) p.code).2 r := by
  unfold askd bl
  rw [List.getD_eq_getElem?_getD, List.getElem?_map, List.getElem?_range h]
  rfl
/-- what stands behind the rounds from behind -/
def istep (code : List Ins) (s : NS) (k : Nat) : NS := if (!s.want (cd code k).to || selfB (cd code k)) = true then ⟨s.want, fun j => decide (j = k) || s.need j⟩ else ⟨nback s.want (cd code k), s.need⟩
def irun (outs : List Int) (code : List Ins) (ks : List Nat) : NS := ks.foldl (istep code) (nst0 outs)
theorem irun_snoc (outs : List Int) (code : List Ins) (ks : List Nat) (k : Nat) : irun outs code (ks ++ [k]) = istep code (irun outs code ks) k := by unfold irun; rw [List.foldl_append]; rfl
theorem idl_at (W0 : Int → Bool) (l : List Ins) (k : Nat) (h : k < l.length) : bl (idl W0 l) k = (!(need W0 (l.drop (k + 1))).2 (cd l k).to || selfB (cd l k)) := by
  rw [idl_get _ _ _ h]
  have := need_get W0 l k h
  rw [← this]
  rfl
theorem irun_bks (outs : List Int) (code : List Ins) (m : Nat) (hm : m ≤ code.length) :
    (irun outs code (bks code.length m)).want = (need (outsW outs) (code.drop (code.length - m))).2 ∧ ∀ k, k < code.length → (irun outs code (bks code.length m)).need k = (decide (code.length - m ≤ k) && bl (idl (outsW outs) code) k) := by
  induction m with
  | zero =>
    refine ⟨by simp only [Nat.sub_zero, List.drop_length]; rfl, fun k hk => ?_⟩
    have : ¬ code.length - 0 ≤ k := by omega
    simp only [this, decide_false, Bool.false_and]; rfl
  | succ m ih =>
    obtain ⟨h1, h2⟩ := ih (by omega)
    obtain ⟨t, ht⟩ : ∃ t, t = code.length - 1 - m := ⟨_, rfl⟩
    have e1 : code.length - m = t + 1 := by omega
    have e2 : code.length - (m + 1) = t := by omega
    have htl : t < code.length := by omega
    rw [bks_succ, irun_snoc, ← ht]
    rw [e1] at h1 h2
    rw [e2]
    have hg := idl_at (outsW outs) code t htl
    unfold istep
    rw [h1, drop_cd code t htl]
    simp only [need]
    by_cases hb : (!(need (outsW outs) (code.drop (t + 1))).2 (cd code t).to || selfB (cd code t)) = true
    · rw [hb] at hg
      rw [if_pos hb]
      refine ⟨(idle_back hb).symm, fun k hk => ?_⟩
      by_cases hkt : k = t
      · subst hkt; rw [hg]; simp
      · show (decide (k = t) || _) = _
        rw [h2 k hk]
        have : (t + 1 ≤ k) = (t ≤ k) := by apply propext; omega
        simp only [hkt, this, decide_false, Bool.false_or]
    · have hb' : (!(need (outsW outs) (code.drop (t + 1))).2 (cd code t).to || selfB (cd code t)) = false := by simpa using hb
      rw [hb'] at hg
      rw [if_neg hb]
      refine ⟨rfl, fun k hk => ?_⟩
      show (irun outs code (bks code.length m)).need k = _
      rw [h2 k hk]
      by_cases hkt : k = t
      · subst hkt; rw [hg]; simp
      · have : (t + 1 ≤ k) = (t ≤ k) := by apply propext; omega
        simp only [this]
theorem irun_all (outs : List Int) (code : List Ins) (k : Nat) (hk : k < code.length) : (irun outs code (bks code.length code.length)).need k = bl (idl (outsW outs) code) k := by
  rw [(irun_bks outs code code.length (Nat.le_refl _)).2 k hk]
  simp
theorem irun_want (outs : List Int) (code : List Ins) : (irun outs code (bks code.length code.length)).want = (need (outsW outs) code).2 := by
  rw [(irun_bks outs code code.length (Nat.le_refl _)).1, Nat.sub_self, List.drop_zero]
end Go.Proofs.Ytcciojlbfaanmaa
