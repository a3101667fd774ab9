/- Plain texts: what is read of a text is told as that text again, and what is told of a number is read as that number again. Nothing of the program. -/
import Derived.Test.YtgkibmigbjjnnaaRead
import Derived.Test.YtgkibmigbjjnnaaText
import Derived.Test.YtgkibmigbjjnnaaIRead
import Derived.Test.YtgkibmigbjjnnaaIText
namespace Go.Proofs.Ytgkibmigbjjnnaa
open Go.RowKit

/-- what digits come to, behind a -/
def ev (a : Nat) (ds : List Nat) : Nat := ds.foldl (fun a d => a * 10 + d) a
theorem ev_digs (k g : Nat) : ∀ a, ev a (digs k g) = a * 10 ^ (k + 1) + g % 10 ^ (k + 1) := by
  induction k with
  | zero => intro a; simp [ev, digs]
  | succ k ih =>
    intro a
    have := ih (a * 10 + g / 10 ^ (k + 1) % 10)
    unfold ev at this ⊢
    rw [digs, List.foldl_cons, this, Nat.pow_succ 10 (k + 1), Nat.mod_mul, Nat.add_mul, Nat.mul_assoc, Nat.mul_comm 10, Nat.mul_comm (g / 10 ^ (k + 1) % 10)]
    omega
theorem ev_dec (n : Nat) : ev 0 (dec n) = n := by
  unfold dec
  rw [ev_digs, Nat.mod_eq_of_lt (nd_spec n).1]; omega
theorem digs_get (k g i : Nat) (h : i ≤ k) : (digs k g)[i]? = some (g / 10 ^ (k - i) % 10) := by
  induction k generalizing i with
  | zero => have : i = 0 := by omega
            subst this; simp [digs]
  | succ k ih =>
    cases i with
    | zero => simp [digs]
    | succ i => rw [digs, List.getElem?_cons_succ, ih i (by omega), Nat.add_sub_add_right]
theorem digs_le (k g : Nat) : ∀ d ∈ digs k g, d ≤ 9 := by
  induction k with
  | zero => intro d h; simp [digs] at h; omega
  | succ k ih =>
    intro d h
    rw [digs] at h
    rcases List.mem_cons.1 h with rfl | h
    · omega
    · exact ih d h
theorem bt_str (xs : List Int) (i : Nat) (n : Nat) (h : xs[i]? = some (n : Int)) (hn : n < 256) : bt (strOfNums xs) i = n := by
  obtain ⟨hi, he⟩ := List.getElem?_eq_some_iff.1 h
  have hs : i < (strOfNums xs).size := by rw [strOfNums_size]; exact hi
  rw [← bt_get _ _ hs]
  have : (strOfNums xs)[i] = UInt8.ofNat (xs[i].toNat) := by
    show (strOfNums xs).data[i]'hs = _
    simp [strOfNums]
  rw [this, he]
  simp
  omega
theorem bt_byts (ds : List Nat) (i d : Nat) (h : ds[i]? = some d) (hd : d ≤ 9) : bt (strOfNums (byts ds)) i = 48 + d := by
  refine bt_str _ _ (48 + d) ?_ (by omega)
  unfold byts
  rw [List.getElem?_map, h]; rfl
theorem nv_byts (ds : List Nat) (hd : ∀ d ∈ ds, d ≤ 9) (k : Nat) (hk : k ≤ ds.length) : nv (strOfNums (byts ds)) k = ev 0 (ds.take k) := by
  induction k with
  | zero => simp [nv, ev]
  | succ k ih =>
    have hg : ds[k]? = some ds[k] := List.getElem?_eq_getElem (by omega)
    rw [nv, ih (by omega), List.take_add_one, hg, bt_byts ds k _ hg (hd _ (List.getElem_mem _))]
    unfold ev
    rw [List.foldl_append]
    simp only [Option.toList_some, List.foldl_cons, List.foldl_nil]
    omega
theorem dec_lead (n : Nat) : ∃ d, (dec n)[0]? = some d ∧ d ≤ 9 ∧ (1 ≤ nd n → d ≠ 0) := by
  refine ⟨_, by unfold dec; exact digs_get _ _ 0 (Nat.zero_le _), by omega, fun h => ?_⟩
  obtain ⟨h1, h2⟩ := nd_spec n
  rcases h2 with h2 | h2
  · omega
  · rw [Nat.sub_zero]
    have h3 : n / 10 ^ nd n < 10 := by rw [Nat.div_lt_iff_lt_mul (pow_pos10 _), ← pow_succ10]; exact h1
    have h4 : 0 < n / 10 ^ nd n := Nat.div_pos h2 (pow_pos10 _)
    omega
theorem txt_size (n : Nat) : (txt n).size = nd n + 1 := by unfold txt; rw [strOfNums_size]; unfold byts; rw [List.length_map, dec_length]
/-- a number's text says nothing wrong, and that number -/
theorem txt_good (n : Nat) : Good (txt n) (txt n).size ∧ nv (txt n) (txt n).size = n := by
  have hle : ∀ d ∈ dec n, d ≤ 9 := digs_le _ _
  constructor
  · intro j hj
    rw [txt_size] at hj
    have hl := dec_length n
    have hg : (dec n)[j]? = some (dec n)[j] := List.getElem?_eq_getElem (by omega)
    have hb := bt_byts _ _ _ hg (hle _ (List.getElem_mem _))
    have hd := hle _ (List.getElem_mem (l := dec n) (n := j) (by omega))
    obtain ⟨d, h0, h9, hn⟩ := dec_lead n
    have hb0 := bt_byts _ _ _ h0 h9
    refine ⟨?_, ?_, fun h1 => ?_⟩
    · unfold txt; rw [hb]; omega
    · unfold txt; rw [hb]; omega
    · unfold txt; rw [hb0]; have := hn (by omega); omega
  · rw [txt_size]
    unfold txt
    rw [nv_byts _ hle _ (by rw [dec_length]; exact Nat.le_refl _), List.take_of_length_le (by rw [dec_length]; exact Nat.le_refl _), ev_dec]

theorem nv_ge (s : ByteArray) (k : Nat) (h : Good s (k + 1)) (h0 : bt s 0 ≠ 48) : 10 ^ k ≤ nv s (k + 1) := by
  induction k with
  | zero => have := (h 0 (by omega)).lo; simp [nv]; omega
  | succ k ih =>
    have := ih fun j hj => h j (by omega)
    rw [nv, pow_succ10]; omega
theorem nv_div (s : ByteArray) (j k : Nat) (h : Good s (k + j)) : nv s (k + j) / 10 ^ j = nv s k := by
  induction j with
  | zero => simp
  | succ j ih =>
    have := ih fun i hi => h i (by omega)
    have f := h (k + j) (by omega)
    have := f.lo
    have := f.hi
    rw [← Nat.add_assoc, nv, pow_succ10, ← Nat.div_div_eq_div_mul, show (nv s (k + j) * 10 + (bt s (k + j) - 48)) / 10 = nv s (k + j) by omega]
    assumption
theorem nv_nd (s : ByteArray) (k : Nat) (h : Good s (k + 1)) : nd (nv s (k + 1)) = k := by
  refine nd_unique (nv_lt s _ h) ?_
  rcases Nat.eq_zero_or_pos k with h0 | h0
  · exact .inl h0
  · exact .inr (nv_ge s k h ((h 1 (by omega)).lead (Nat.le_refl _)))
theorem byte_of (s : ByteArray) (i : Nat) (h : i < s.size) : UInt8.ofNat (bt s i) = s[i] := by
  rw [← bt_get s i h]; simp
/-- a text in which nothing is wrong is that of its number -/
theorem good_txt (s : ByteArray) (h0 : 0 < s.size) (h : Good s s.size) : txt (nv s s.size) = s := by
  obtain ⟨k, hk⟩ : ∃ k, s.size = k + 1 := ⟨s.size - 1, by omega⟩
  have hnd := nv_nd s k (hk ▸ h)
  rw [hk] at h ⊢
  apply ByteArray.ext
  apply Array.ext
  · show (txt (nv s (k + 1))).size = s.size
    rw [txt_size, hnd, hk]
  · intro i h1 h2
    have hi : i < k + 1 := by have : i < s.size := h2; omega
    have hg : (dec (nv s (k + 1)))[i]? = some (bt s i - 48) := by
      unfold dec
      rw [hnd, digs_get k _ i (by omega)]
      have e : nv s (k + 1) / 10 ^ (k - i) = nv s (i + 1) := by
        have := nv_div s (k - i) (i + 1) (by rw [show i + 1 + (k - i) = k + 1 by omega]; exact h)
        rwa [show i + 1 + (k - i) = k + 1 by omega] at this
      have f := h i hi
      have := f.lo
      have := f.hi
      rw [e, nv]
      congr 1
      omega
    have f := h i hi
    have f1 := f.lo
    have f2 := f.hi
    have hb := bt_byts _ _ _ hg (by omega)
    have e1 := byte_of (txt (nv s (k + 1))) i h1
    have e2 := byte_of s i h2
    have e3 : bt (txt (nv s (k + 1))) i = bt s i := by unfold txt; rw [hb]; omega
    rw [e3] at e1
    exact e1.symm.trans e2
end Go.Proofs.Ytgkibmigbjjnnaa

namespace Go.Proofs.Ytgkibmigbjjnnaa
open Go.RowKit

theorem str_app (xs ys : List Int) : strOfNums (xs ++ ys) = strOfNums xs ++ strOfNums ys := by
  apply ByteArray.ext
  simp [strOfNums, ByteArray.data_append]
theorem head_rest (s : ByteArray) (h : hp s 45 = true) : strOfNums [45] ++ rest1 s = s := by
  obtain ⟨h0, hb⟩ := hp_yes h
  have e : s.extract 0 1 = strOfNums [45] := by
    rw [ext1 s h0]
    have := byte_of s 0 h0
    rw [hb] at this
    rw [← this]; rfl
  unfold rest1
  rw [← e, ByteArray.extract_append_extract]
  simp

theorem IRd.same {s : ByteArray} {z z' : Int} {a b a' b' : Nat} (h : IRd s z a b) (k : IRd s z' a' b') : z = z' ∧ a = a' ∧ b = b' := by
  rcases h with ⟨h1, rfl, rfl, rfl⟩ | ⟨h1, h2, h3, rfl, rfl, rfl⟩ | ⟨h1, h2, xs, c, d, hr, h3⟩ <;>
  rcases k with ⟨k1, rfl, rfl, rfl⟩ | ⟨k1, k2, k3, rfl, rfl, rfl⟩ | ⟨k1, k2, ys, c', d', kr, k3⟩
  · exact ⟨rfl, rfl, rfl⟩
  · omega
  · omega
  · omega
  · exact ⟨rfl, rfl, rfl⟩
  · exact absurd ⟨h2, h3⟩ k2
  · omega
  · exact absurd ⟨k2, k3⟩ h2
  · obtain ⟨rfl, rfl, rfl⟩ := hr.same kr
    rcases h3 with ⟨p, rfl, rfl, rfl⟩ | ⟨p, rfl, rfl, rfl⟩ <;> rcases k3 with ⟨q, rfl, rfl, rfl⟩ | ⟨q, rfl, rfl, rfl⟩
    · exact ⟨rfl, rfl, rfl⟩
    · exact absurd q p
    · exact absurd p q
    · exact ⟨rfl, rfl, rfl⟩
/-- what is read is told as the text -/
theorem IRd.told {s : ByteArray} {z : Int} {b : Nat} (h : IRd s z 0 b) : itxt z = s ∧ s.size ≤ 65536 ∧ b = 0 := by
  rcases h with ⟨h1, _, h, _⟩ | ⟨h1, h2, h3, _, h, _⟩ | ⟨h1, h2, xs, c, d, hr, h3⟩
  · omega
  · omega
  · rcases h3 with ⟨p, _, q, _⟩ | ⟨rfl, rfl, _, rfl⟩
    · omega
    refine ⟨?_, h1, rfl⟩
    rcases hr with ⟨_, _, h, _⟩ | ⟨_, _, h, _⟩ | ⟨_, i, _, _, _, _, h, _⟩ | ⟨_, g0, g, rfl, _, _⟩
    · omega
    · omega
    · omega
    rw [val_lim]
    have ht := good_txt _ g0 g
    unfold txt at ht
    cases hc : hp s 45 with
    | false =>
      have ed : cutP s 45 = s := by unfold cutP; rw [hc]; rfl
      rw [ed] at ht g0 g ⊢
      have := itxt_pos (nv s s.size)
      simp only [Ending.returned.injEq, Value.string.injEq] at this
      rw [← this]; exact ht
    | true =>
      have ed : cutP s 45 = rest1 s := by unfold cutP; rw [hc]; rfl
      rw [ed] at ht g0 g ⊢
      have hz : nv (rest1 s) (rest1 s).size ≠ 0 := by
        intro hz
        obtain ⟨k, hk⟩ : ∃ k, (rest1 s).size = k + 1 := ⟨(rest1 s).size - 1, by omega⟩
        by_cases h48 : bt (rest1 s) 0 = 48
        · exact h2 ⟨hc, by unfold hp; exact decide_eq_true ⟨g0, h48⟩⟩
        · have := nv_ge (rest1 s) k (hk ▸ g) h48
          have := pow_pos10 k
          rw [hk] at hz
          omega
      have := itxt_neg _ hz
      simp only [Ending.returned.injEq, Value.string.injEq] at this
      rw [← this, str_app, ht]; exact head_rest s hc
theorem bt_rest (s : ByteArray) (i : Nat) : bt (rest1 s) i = bt s (i + 1) := by
  unfold bt
  by_cases h : i + 1 < s.size
  · have h' : i < (rest1 s).size := by rw [rest1_size]; omega
    rw [dif_pos h, dif_pos h']
    congr 1
    simp [rest1, ByteArray.getElem_extract, Nat.add_comm]
  · have h' : ¬ i < (rest1 s).size := by rw [rest1_size]; omega
    rw [dif_neg h, dif_neg h']
theorem itxt_size (z : Int) : (itxt z).size ≤ nd z.natAbs + 2 := by
  unfold itxt
  rw [strOfNums_size, List.length_append]
  unfold byts
  rw [List.length_map, dec_length]
  split <;> simp <;> omega
/-- what is told is read as the number -/
theorem ird_told (z : Int) (h : (itxt z).size ≤ 65536) : IRd (itxt z) z 0 0 := by
  by_cases hz : z < 0
  · have e : itxt z = strOfNums [45] ++ txt z.natAbs := by unfold itxt txt; rw [if_pos hz, str_app]
    have hc : hp (itxt z) 45 = true := by
      unfold hp
      refine decide_eq_true ⟨?_, ?_⟩
      · unfold itxt; rw [strOfNums_size, if_pos hz]; simp
      · unfold itxt; rw [if_pos hz]; exact bt_str _ 0 45 rfl (by decide)
    have er : rest1 (itxt z) = txt z.natAbs := by
      have h1 := head_rest _ hc
      rw [e] at h1
      rw [e]
      apply ByteArray.ext
      have := congrArg ByteArray.data h1
      simp only [ByteArray.data_append] at this
      exact (Array.append_right_inj _).1 this
    have ed : cutP (itxt z) 45 = txt z.natAbs := by unfold cutP; rw [hc]; exact er
    obtain ⟨g, gv⟩ := txt_good z.natAbs
    have hs := txt_size z.natAbs
    refine .inr (.inr ⟨h, ?_, lim z.natAbs, 0, 0, ?_, .inr ⟨rfl, ?_, rfl, rfl⟩⟩)
    · rintro ⟨_, h2⟩
      rw [er] at h2
      obtain ⟨_, hb⟩ := hp_yes h2
      obtain ⟨d, h0, h9, hn⟩ := dec_lead z.natAbs
      have hb0 := bt_byts _ _ _ h0 h9
      unfold txt at hb
      rw [hb0] at hb
      have hd : d = 0 := by change 48 + d = 48 at hb; omega
      subst hd
      have : nd z.natAbs = 0 := by
        rcases Nat.eq_zero_or_pos (nd z.natAbs) with h | h
        · exact h
        · exact absurd rfl (hn h)
      have h3 := ev_dec z.natAbs
      unfold dec at h3 h0
      rw [this] at h3 h0
      simp [digs, ev] at h3 h0
      omega
    · rw [ed]; exact .inr (.inr (.inr ⟨by have := itxt_size z; rw [e, ByteArray.size_append] at h; omega, by omega, g, by rw [gv], rfl, rfl⟩))
    · rw [hc, val_lim, sg_true]; omega
  · have e : itxt z = txt z.natAbs := by unfold itxt txt; rw [if_neg hz]; rfl
    obtain ⟨g, gv⟩ := txt_good z.natAbs
    have hs := txt_size z.natAbs
    have hc : hp (itxt z) 45 = false := by
      unfold hp
      refine decide_eq_false ?_
      rintro ⟨_, hb⟩
      have := (g 0 (by omega)).lo
      rw [e] at hb
      rw [hb] at this
      exact absurd this (by decide)
    have ed : cutP (itxt z) 45 = txt z.natAbs := by unfold cutP; rw [hc]; exact e
    refine .inr (.inr ⟨h, by rw [hc]; simp, lim z.natAbs, 0, 0, ?_, .inr ⟨rfl, ?_, rfl, rfl⟩⟩)
    · rw [ed]; exact .inr (.inr (.inr ⟨by rw [e] at h; exact h, by omega, g, by rw [gv], rfl, rfl⟩))
    · rw [hc, val_lim, sg_false]; omega
end Go.Proofs.Ytgkibmigbjjnnaa
