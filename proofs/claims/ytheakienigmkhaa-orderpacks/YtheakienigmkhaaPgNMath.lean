/- Which instructions are needed: in plain words, from behind and from ahead; those that are left. -/
import Derived.Test.YtheakienigmkhaaPgDep
namespace Go.Proofs.Ytheakienigmkhaa
open Go.RowKit

/-- which registers are wanted ahead of an instruction, if those behind it are -/
def nback (W : Int → Bool) (i : Ins) : Int → Bool := if W i.to = true then fun r => decide (r ∈ asksL i) || (!decide (r = i.to) && W r) else W
def need (W0 : Int → Bool) : List Ins → List Bool × (Int → Bool)
  | [] => ([], W0)
  | i :: l => ((need W0 l).2 i.to :: (need W0 l).1, nback (need W0 l).2 i)
def outsW (l : List Int) : Int → Bool := fun r => decide (r ∈ l)
def ndL (p : Pg) : List Bool := (need (outsW p.outs) p.code).1
theorem need_length (W0 : Int → Bool) (l : List Ins) : (need W0 l).1.length = l.length := by
  induction l with
  | nil => rfl
  | cons i l ih => simp only [need, List.length_cons, ih]
/-- those that are left -/
def kept : List Bool → List Ins → List Ins
  | true :: b, i :: l => i :: kept b l
  | false :: b, _ :: l => kept b l
  | _, _ => []
theorem kept_need (W0 : Int → Bool) (l : List Ins) : need W0 (kept (need W0 l).1 l) = (List.replicate (kept (need W0 l).1 l).length true, (need W0 l).2) := by
  induction l with
  | nil => rfl
  | cons i l ih =>
    simp only [need]
    cases hb : (need W0 l).2 i.to with
    | true =>
      simp only [kept, need, ih, hb, List.length_cons, List.replicate_succ]
    | false =>
      simp only [kept, ih]
      unfold nback
      rw [if_neg (by rw [hb]; simp)]
/-- whether a register is asked, looking ahead -/
def fwd (outs : List Int) (r : Int) : List Ins → List Bool → Bool
  | i :: l, b :: bs => (b && decide (r ∈ asksL i)) || (!decide (i.to = r) && fwd outs r l bs)
  | _, _ => decide (r ∈ outs)
theorem fwd_need (outs : List Int) (r : Int) (l : List Ins) : fwd outs r l (need (outsW outs) l).1 = (need (outsW outs) l).2 r := by
  induction l with
  | nil => rfl
  | cons i l ih =>
    simp only [need, fwd, ih]
    unfold nback
    cases hb : (need (outsW outs) l).2 i.to with
    | true =>
      by_cases h : i.to = r
      · subst h; simp
      · have h' : ¬ r = i.to := fun e => h e.symm
        simp [h, h']
    | false =>
      by_cases h : i.to = r
      · subst h; simp [hb]
      · simp [h]
theorem need_drop (W0 : Int → Bool) (l : List Ins) (k : Nat) : (need W0 (l.drop k)).1 = (need W0 l).1.drop k := by
  induction l generalizing k with
  | nil => simp [need]
  | cons i l ih =>
    cases k with
    | zero => rfl
    | succ k => simp only [List.drop_succ_cons, need]; exact ih k
theorem need_get (W0 : Int → Bool) (l : List Ins) (k : Nat) (h : k < l.length) : (need W0 l).1.getD k false = (need W0 (l.drop (k + 1))).2 (cd l k).to := by
  induction l generalizing k with
  | nil => simp at h
  | cons i l ih =>
    cases k with
    | zero => rfl
    | succ k =>
      simp only [need, List.getD_cons_succ, List.drop_succ_cons]
      rw [ih k (by simpa using h)]
      congr 2
theorem drop_cd (l : List Ins) (k : Nat) (h : k < l.length) : l.drop k = cd l k :: l.drop (k + 1) := by rw [List.drop_eq_getElem_cons h, cd_lt h]
/-- what stands behind the rounds that have come -/
structure NS where
  want : Int → Bool
  need : Nat → Bool
def nst0 (outs : List Int) : NS := ⟨outsW outs, fun _ => false⟩
def nstep (code : List Ins) (s : NS) (k : Nat) : NS := if s.want (cd code k).to = true then ⟨nback s.want (cd code k), fun j => decide (j = k) || s.need j⟩ else s
def nrun (outs : List Int) (code : List Ins) (ks : List Nat) : NS := ks.foldl (nstep code) (nst0 outs)
theorem nrun_snoc (outs : List Int) (code : List Ins) (ks : List Nat) (k : Nat) : nrun outs code (ks ++ [k]) = nstep code (nrun outs code ks) k := by unfold nrun; rw [List.foldl_append]; rfl
/-- the numbers from behind -/
def bks (n m : Nat) : List Nat := (List.range m).map (fun j => n - 1 - j)
theorem bks_succ (n m : Nat) : bks n (m + 1) = bks n m ++ [n - 1 - m] := by unfold bks; rw [List.range_succ, List.map_append]; rfl
theorem nrun_bks (outs : List Int) (code : List Ins) (m : Nat) (hm : m ≤ code.length) :
    (nrun outs code (bks code.length m)).want = (need (outsW outs) (code.drop (code.length - m))).2 ∧ ∀ k, k < code.length → (nrun outs code (bks code.length m)).need k = (decide (code.length - m ≤ k) && (need (outsW outs) code).1.getD k false) := by
  induction m with
  | zero =>
    refine ⟨by simp only [Nat.sub_zero, List.drop_length]; rfl, fun k hk => ?_⟩
    have : ¬ code.length - 0 ≤ k := by omega
    simp only [this, decide_false, Bool.false_and]; rfl
  | succ m ih =>
    obtain ⟨h1, h2⟩ := ih (by omega)
    obtain ⟨t, ht⟩ : ∃ t, t = code.length - 1 - m := ⟨_, rfl⟩
    have e1 : code.length - m = t + 1 := by omega
    have e2 : code.length - (m + 1) = t := by omega
    have htl : t < code.length := by omega
    rw [bks_succ, nrun_snoc, ← ht]
    rw [e1] at h1 h2
    rw [e2]
    have hg := need_get (outsW outs) code t htl
    unfold nstep
    rw [h1, drop_cd code t htl]
    simp only [need]
    cases hb : (need (outsW outs) (code.drop (t + 1))).2 (cd code t).to with
    | true =>
      rw [hb] at hg
      refine ⟨rfl, fun k hk => ?_⟩
      simp only [if_true]
      by_cases hkt : k = t
      · subst hkt; rw [hg]; simp
      · rw [h2 k hk]
        have : (t + 1 ≤ k) = (t ≤ k) := by apply propext; omega
        simp only [hkt, this, decide_false, Bool.false_or]
    | false =>
      rw [hb] at hg
      refine ⟨?_, fun k hk => ?_⟩
      · simp only [Bool.false_eq_true, if_false]
        rw [h1]
        unfold nback
        rw [if_neg (by rw [hb]; simp)]
      · simp only [Bool.false_eq_true, if_false]
        rw [h2 k hk]
        by_cases hkt : k = t
        · subst hkt; rw [hg]; simp
        · have : (t + 1 ≤ k) = (t ≤ k) := by apply propext; omega
          simp only [this]
theorem nrun_all (outs : List Int) (code : List Ins) (k : Nat) (hk : k < code.length) : (nrun outs code (bks code.length code.length)).need k = (need (outsW outs) code).1.getD k false := by
  rw [(nrun_bks outs code code.length (Nat.le_refl _)).2 k hk]
  simp
end Go.Proofs.Ytheakienigmkhaa
