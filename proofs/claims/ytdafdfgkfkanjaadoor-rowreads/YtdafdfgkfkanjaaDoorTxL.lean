/- Plain texts of numbers: what is read of a text is told as that text again, and what is told of a number is read as that number again. Nothing of the program. -/
import Derived.Test.YtdafdfgkfkanjaaDoorRead
import Derived.Test.YtdafdfgkfkanjaaDoorText
namespace Go.Proofs.YtdafdfgkfkanjaaDoor
open Go.RowKit

/-- what digits come to, behind a -/
def ev (a : Nat) (ds : List Nat) : Nat := ds.foldl (fun a d => a * 10 + d) a
theorem ev_digs (k g : Nat) : ∀ a, ev a (digs k g) = a * 10 ^ (k + 1) + g % 10 ^ (k + 1) := by
  induction k with
  | zero => intro a; simp [ev, digs]
  | succ k ih =>
    intro a
    have := ih (a * 10 + g / 10 ^ (k + 1) % 10)
    unfold ev at this ⊢
    rw [digs, List.foldl_cons, this, Nat.pow_succ 10 (k + 1), Nat.mod_mul, Nat.add_mul, Nat.mul_assoc, Nat.mul_comm 10, Nat.mul_comm (g / 10 ^ (k + 1) % 10)]
    omega
theorem ev_dec (n : Nat) : ev 0 (dec n) = n := by
  unfold dec
  rw [ev_digs, Nat.mod_eq_of_lt (nd_spec n).1]; omega
theorem digs_get (k g i : Nat) (h : i ≤ k) : (digs k g)[i]? = some (g / 10 ^ (k - i) % 10) := by
  induction k generalizing i with
  | zero => have : i = 0 := by omega
            subst this; simp [digs]
  | succ k ih =>
    cases i with
    | zero => simp [digs]
    | succ i => rw [digs, List.getElem?_cons_succ, ih i (by omega), Nat.add_sub_add_right]
theorem digs_le (k g : Nat) : ∀ d ∈ digs k g, d ≤ 9 := by
  induction k with
  | zero => intro d h; simp [digs] at h; omega
  | succ k ih =>
    intro d h
    rw [digs] at h
    rcases List.mem_cons.1 h with rfl | h
    · omega
    · exact ih d h
theorem bt_str (xs : List Int) (i : Nat) (n : Nat) (h : xs[i]? = some (n : Int)) (hn : n < 256) : bt (strOfNums xs) i = n := by
  obtain ⟨hi, he⟩ := List.getElem?_eq_some_iff.1 h
  have hs : i < (strOfNums xs).size := by rw [strOfNums_size]; exact hi
  rw [← bt_get _ _ hs]
  have : (strOfNums xs)[i] = UInt8.ofNat (xs[i].toNat) := by
    show (strOfNums xs).data[i]'hs = _
    simp [strOfNums]
  rw [this, he]
  simp
  omega
theorem bt_byts (ds : List Nat) (i d : Nat) (h : ds[i]? = some d) (hd : d ≤ 9) : bt (strOfNums (byts ds)) i = 48 + d := by
  refine bt_str _ _ (48 + d) ?_ (by omega)
  unfold byts
  rw [List.getElem?_map, h]; rfl
theorem nv_byts (ds : List Nat) (hd : ∀ d ∈ ds, d ≤ 9) (k : Nat) (hk : k ≤ ds.length) : nv (strOfNums (byts ds)) k = ev 0 (ds.take k) := by
  induction k with
  | zero => simp [nv, ev]
  | succ k ih =>
    have hg : ds[k]? = some ds[k] := List.getElem?_eq_getElem (by omega)
    rw [nv, ih (by omega), List.take_add_one, hg, bt_byts ds k _ hg (hd _ (List.getElem_mem _))]
    unfold ev
    rw [List.foldl_append]
    simp only [Option.toList_some, List.foldl_cons, List.foldl_nil]
    omega
theorem dec_lead (n : Nat) : ∃ d, (dec n)[0]? = some d ∧ d ≤ 9 ∧ (1 ≤ nd n → d ≠ 0) := by
  refine ⟨_, by unfold dec; exact digs_get _ _ 0 (Nat.zero_le _), by omega, fun h => ?_⟩
  obtain ⟨h1, h2⟩ := nd_spec n
  rcases h2 with h2 | h2
  · omega
  · rw [Nat.sub_zero]
    have h3 : n / 10 ^ nd n < 10 := by rw [Nat.div_lt_iff_lt_mul (pow_pos10 _), ← pow_succ10]; exact h1
    have h4 : 0 < n / 10 ^ nd n := Nat.div_pos h2 (pow_pos10 _)
    omega
theorem txt_size (n : Nat) : (txt n).size = nd n + 1 := by unfold txt; rw [strOfNums_size]; unfold byts; rw [List.length_map, dec_length]
/-- a number's text says nothing wrong, and that number -/
theorem txt_good (n : Nat) : Good (txt n) (txt n).size ∧ nv (txt n) (txt n).size = n := by
  have hle : ∀ d ∈ dec n, d ≤ 9 := digs_le _ _
  constructor
  · intro j hj
    rw [txt_size] at hj
    have hl := dec_length n
    have hg : (dec n)[j]? = some (dec n)[j] := List.getElem?_eq_getElem (by omega)
    have hb := bt_byts _ _ _ hg (hle _ (List.getElem_mem _))
    have hd := hle _ (List.getElem_mem (l := dec n) (n := j) (by omega))
    obtain ⟨d, h0, h9, hn⟩ := dec_lead n
    have hb0 := bt_byts _ _ _ h0 h9
    refine ⟨?_, ?_, fun h1 => ?_⟩
    · unfold txt; rw [hb]; omega
    · unfold txt; rw [hb]; omega
    · unfold txt; rw [hb0]; have := hn (by omega); omega
  · rw [txt_size]
    unfold txt
    rw [nv_byts _ hle _ (by rw [dec_length]; exact Nat.le_refl _), List.take_of_length_le (by rw [dec_length]; exact Nat.le_refl _), ev_dec]

theorem nv_ge (s : ByteArray) (k : Nat) (h : Good s (k + 1)) (h0 : bt s 0 ≠ 48) : 10 ^ k ≤ nv s (k + 1) := by
  induction k with
  | zero => have := (h 0 (by omega)).lo; simp [nv]; omega
  | succ k ih =>
    have := ih fun j hj => h j (by omega)
    rw [nv, pow_succ10]; omega
theorem nv_div (s : ByteArray) (j k : Nat) (h : Good s (k + j)) : nv s (k + j) / 10 ^ j = nv s k := by
  induction j with
  | zero => simp
  | succ j ih =>
    have := ih fun i hi => h i (by omega)
    have f := h (k + j) (by omega)
    have := f.lo
    have := f.hi
    rw [← Nat.add_assoc, nv, pow_succ10, ← Nat.div_div_eq_div_mul, show (nv s (k + j) * 10 + (bt s (k + j) - 48)) / 10 = nv s (k + j) by omega]
    assumption
theorem nv_nd (s : ByteArray) (k : Nat) (h : Good s (k + 1)) : nd (nv s (k + 1)) = k := by
  refine nd_unique (nv_lt s _ h) ?_
  rcases Nat.eq_zero_or_pos k with h0 | h0
  · exact .inl h0
  · exact .inr (nv_ge s k h ((h 1 (by omega)).lead (Nat.le_refl _)))
theorem byte_of (s : ByteArray) (i : Nat) (h : i < s.size) : UInt8.ofNat (bt s i) = s[i] := by
  rw [← bt_get s i h]; simp
/-- a text in which nothing is wrong is that of its number -/
theorem good_txt (s : ByteArray) (h0 : 0 < s.size) (h : Good s s.size) : txt (nv s s.size) = s := by
  obtain ⟨k, hk⟩ : ∃ k, s.size = k + 1 := ⟨s.size - 1, by omega⟩
  have hnd := nv_nd s k (hk ▸ h)
  rw [hk] at h ⊢
  apply ByteArray.ext
  apply Array.ext
  · show (txt (nv s (k + 1))).size = s.size
    rw [txt_size, hnd, hk]
  · intro i h1 h2
    have hi : i < k + 1 := by have : i < s.size := h2; omega
    have hg : (dec (nv s (k + 1)))[i]? = some (bt s i - 48) := by
      unfold dec
      rw [hnd, digs_get k _ i (by omega)]
      have e : nv s (k + 1) / 10 ^ (k - i) = nv s (i + 1) := by
        have := nv_div s (k - i) (i + 1) (by rw [show i + 1 + (k - i) = k + 1 by omega]; exact h)
        rwa [show i + 1 + (k - i) = k + 1 by omega] at this
      have f := h i hi
      have := f.lo
      have := f.hi
      rw [e, nv]
      congr 1
      omega
    have f := h i hi
    have f1 := f.lo
    have f2 := f.hi
    have hb := bt_byts _ _ _ hg (by omega)
    have e1 := byte_of (txt (nv s (k + 1))) i h1
    have e2 := byte_of s i h2
    have e3 : bt (txt (nv s (k + 1))) i = bt s i := by unfold txt; rw [hb]; omega
    rw [e3] at e1
    exact e1.symm.trans e2
end Go.Proofs.YtdafdfgkfkanjaaDoor
