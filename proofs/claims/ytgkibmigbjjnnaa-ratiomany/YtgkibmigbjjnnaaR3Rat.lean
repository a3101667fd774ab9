/- swagelaw03's rat. -/
import Derived.Test.YtgkibmigbjjnnaaRead
import Derived.Test.YtgkibmigbjjnnaaText
import Derived.Test.YtgkibmigbjjnnaaIRead
import Derived.Test.YtgkibmigbjjnnaaIText
import Derived.Test.YtgkibmigbjjnnaaR2Div1
import Derived.RegionTactic
import Derived.BigRegion
import Derived.Laws.BytesArg
import Derived.Test.YtgkibmigbjjnnaaR2Law
import Derived.Test.YtgkibmigbjjnnaaR3b
import Derived.Test.YtgkibmigbjjnnaaRText
import Derived.Test.YtgkibmigbjjnnaaRBox
import Derived.Deep.Cut
namespace Go.Proofs.Ytgkibmigbjjnnaa
open Go.RowKit

/-- what digits come to, behind a -/
def ev (a : Nat) (ds : List Nat) : Nat := ds.foldl (fun a d => a * 10 + d) a
theorem digs_get (k g i : Nat) (h : i ≤ k) : (digs k g)[i]? = some (g / 10 ^ (k - i) % 10) := by
  induction k generalizing i with
  | zero => have : i = 0 := by omega
            subst this; simp [digs]
  | succ k ih =>
    cases i with
    | zero => simp [digs]
    | succ i => rw [digs, List.getElem?_cons_succ, ih i (by omega), Nat.add_sub_add_right]
theorem bt_str (xs : List Int) (i : Nat) (n : Nat) (h : xs[i]? = some (n : Int)) (hn : n < 256) : bt (strOfNums xs) i = n := by
  obtain ⟨hi, he⟩ := List.getElem?_eq_some_iff.1 h
  have hs : i < (strOfNums xs).size := by rw [strOfNums_size]; exact hi
  rw [← bt_get _ _ hs]
  have : (strOfNums xs)[i] = UInt8.ofNat (xs[i].toNat) := by
    show (strOfNums xs).data[i]'hs = _
    simp [strOfNums]
  rw [this, he]
  simp
  omega
theorem bt_byts (ds : List Nat) (i d : Nat) (h : ds[i]? = some d) (hd : d ≤ 9) : bt (strOfNums (byts ds)) i = 48 + d := by
  refine bt_str _ _ (48 + d) ?_ (by omega)
  unfold byts
  rw [List.getElem?_map, h]; rfl
theorem txt_size (n : Nat) : (txt n).size = nd n + 1 := by unfold txt; rw [strOfNums_size]; unfold byts; rw [List.length_map, dec_length]
theorem nv_ge (s : ByteArray) (k : Nat) (h : Good s (k + 1)) (h0 : bt s 0 ≠ 48) : 10 ^ k ≤ nv s (k + 1) := by
  induction k with
  | zero => have := (h 0 (by omega)).lo; simp [nv]; omega
  | succ k ih =>
    have := ih fun j hj => h j (by omega)
    rw [nv, pow_succ10]; omega
theorem nv_div (s : ByteArray) (j k : Nat) (h : Good s (k + j)) : nv s (k + j) / 10 ^ j = nv s k := by
  induction j with
  | zero => simp
  | succ j ih =>
    have := ih fun i hi => h i (by omega)
    have f := h (k + j) (by omega)
    have := f.lo
    have := f.hi
    rw [← Nat.add_assoc, nv, pow_succ10, ← Nat.div_div_eq_div_mul, show (nv s (k + j) * 10 + (bt s (k + j) - 48)) / 10 = nv s (k + j) by omega]
    assumption
theorem nv_nd (s : ByteArray) (k : Nat) (h : Good s (k + 1)) : nd (nv s (k + 1)) = k := by
  refine nd_unique (nv_lt s _ h) ?_
  rcases Nat.eq_zero_or_pos k with h0 | h0
  · exact .inl h0
  · exact .inr (nv_ge s k h ((h 1 (by omega)).lead (Nat.le_refl _)))
theorem byte_of (s : ByteArray) (i : Nat) (h : i < s.size) : UInt8.ofNat (bt s i) = s[i] := by
  rw [← bt_get s i h]; simp
/-- a text in which nothing is wrong is that of its number -/
theorem good_txt (s : ByteArray) (h0 : 0 < s.size) (h : Good s s.size) : txt (nv s s.size) = s := by
  obtain ⟨k, hk⟩ : ∃ k, s.size = k + 1 := ⟨s.size - 1, by omega⟩
  have hnd := nv_nd s k (hk ▸ h)
  rw [hk] at h ⊢
  apply ByteArray.ext
  apply Array.ext
  · show (txt (nv s (k + 1))).size = s.size
    rw [txt_size, hnd, hk]
  · intro i h1 h2
    have hi : i < k + 1 := by have : i < s.size := h2; omega
    have hg : (dec (nv s (k + 1)))[i]? = some (bt s i - 48) := by
      unfold dec
      rw [hnd, digs_get k _ i (by omega)]
      have e : nv s (k + 1) / 10 ^ (k - i) = nv s (i + 1) := by
        have := nv_div s (k - i) (i + 1) (by rw [show i + 1 + (k - i) = k + 1 by omega]; exact h)
        rwa [show i + 1 + (k - i) = k + 1 by omega] at this
      have f := h i hi
      have := f.lo
      have := f.hi
      rw [e, nv]
      congr 1
      omega
    have f := h i hi
    have f1 := f.lo
    have f2 := f.hi
    have hb := bt_byts _ _ _ hg (by omega)
    have e1 := byte_of (txt (nv s (k + 1))) i h1
    have e2 := byte_of s i h2
    have e3 : bt (txt (nv s (k + 1))) i = bt s i := by unfold txt; rw [hb]; omega
    rw [e3] at e1
    exact e1.symm.trans e2
end Go.Proofs.Ytgkibmigbjjnnaa

namespace Go.Proofs.Ytgkibmigbjjnnaa
open Go.RowKit

theorem str_app (xs ys : List Int) : strOfNums (xs ++ ys) = strOfNums xs ++ strOfNums ys := by
  apply ByteArray.ext
  simp [strOfNums, ByteArray.data_append]
theorem head_rest (s : ByteArray) (h : hp s 45 = true) : strOfNums [45] ++ rest1 s = s := by
  obtain ⟨h0, hb⟩ := hp_yes h
  have e : s.extract 0 1 = strOfNums [45] := by
    rw [ext1 s h0]
    have := byte_of s 0 h0
    rw [hb] at this
    rw [← this]; rfl
  unfold rest1
  rw [← e, ByteArray.extract_append_extract]
  simp

theorem IRd.same {s : ByteArray} {z z' : Int} {a b a' b' : Nat} (h : IRd s z a b) (k : IRd s z' a' b') : z = z' ∧ a = a' ∧ b = b' := by
  rcases h with ⟨h1, rfl, rfl, rfl⟩ | ⟨h1, h2, h3, rfl, rfl, rfl⟩ | ⟨h1, h2, xs, c, d, hr, h3⟩ <;>
  rcases k with ⟨k1, rfl, rfl, rfl⟩ | ⟨k1, k2, k3, rfl, rfl, rfl⟩ | ⟨k1, k2, ys, c', d', kr, k3⟩
  · exact ⟨rfl, rfl, rfl⟩
  · omega
  · omega
  · omega
  · exact ⟨rfl, rfl, rfl⟩
  · exact absurd ⟨h2, h3⟩ k2
  · omega
  · exact absurd ⟨k2, k3⟩ h2
  · obtain ⟨rfl, rfl, rfl⟩ := hr.same kr
    rcases h3 with ⟨p, rfl, rfl, rfl⟩ | ⟨p, rfl, rfl, rfl⟩ <;> rcases k3 with ⟨q, rfl, rfl, rfl⟩ | ⟨q, rfl, rfl, rfl⟩
    · exact ⟨rfl, rfl, rfl⟩
    · exact absurd q p
    · exact absurd p q
    · exact ⟨rfl, rfl, rfl⟩
/-- what is read is told as the text -/
theorem IRd.told {s : ByteArray} {z : Int} {b : Nat} (h : IRd s z 0 b) : itxt z = s ∧ s.size ≤ 65536 ∧ b = 0 := by
  rcases h with ⟨h1, _, h, _⟩ | ⟨h1, h2, h3, _, h, _⟩ | ⟨h1, h2, xs, c, d, hr, h3⟩
  · omega
  · omega
  · rcases h3 with ⟨p, _, q, _⟩ | ⟨rfl, rfl, _, rfl⟩
    · omega
    refine ⟨?_, h1, rfl⟩
    rcases hr with ⟨_, _, h, _⟩ | ⟨_, _, h, _⟩ | ⟨_, i, _, _, _, _, h, _⟩ | ⟨_, g0, g, rfl, _, _⟩
    · omega
    · omega
    · omega
    rw [val_lim]
    have ht := good_txt _ g0 g
    unfold txt at ht
    cases hc : hp s 45 with
    | false =>
      have ed : cutP s 45 = s := by unfold cutP; rw [hc]; rfl
      rw [ed] at ht g0 g ⊢
      have := itxt_pos (nv s s.size)
      simp only [Ending.returned.injEq, Value.string.injEq] at this
      rw [← this]; exact ht
    | true =>
      have ed : cutP s 45 = rest1 s := by unfold cutP; rw [hc]; rfl
      rw [ed] at ht g0 g ⊢
      have hz : nv (rest1 s) (rest1 s).size ≠ 0 := by
        intro hz
        obtain ⟨k, hk⟩ : ∃ k, (rest1 s).size = k + 1 := ⟨(rest1 s).size - 1, by omega⟩
        by_cases h48 : bt (rest1 s) 0 = 48
        · exact h2 ⟨hc, by unfold hp; exact decide_eq_true ⟨g0, h48⟩⟩
        · have := nv_ge (rest1 s) k (hk ▸ g) h48
          have := pow_pos10 k
          rw [hk] at hz
          omega
      have := itxt_neg _ hz
      simp only [Ending.returned.injEq, Value.string.injEq] at this
      rw [← this, str_app, ht]; exact head_rest s hc
theorem bt_rest (s : ByteArray) (i : Nat) : bt (rest1 s) i = bt s (i + 1) := by
  unfold bt
  by_cases h : i + 1 < s.size
  · have h' : i < (rest1 s).size := by rw [rest1_size]; omega
    rw [dif_pos h, dif_pos h']
    congr 1
    simp [rest1, ByteArray.getElem_extract, Nat.add_comm]
  · have h' : ¬ i < (rest1 s).size := by rw [rest1_size]; omega
    rw [dif_neg h, dif_neg h']
end Go.Proofs.Ytgkibmigbjjnnaa

namespace Go.Proofs.Ytgkibmigbjjnnaa
open Go.RowKit

def byV (xs : List Nat) : List Value := xs.map fun (x : Nat) => Value.int .u8 (x : Int)
theorem byV_get (xs : List Nat) (i : Nat) (h : i < xs.length) : (byV xs)[i]? = some (.int .u8 (lm xs i : Nat)) := by
  simp [byV, lm, h]
theorem byV_set (xs : List Nat) (i x : Nat) : (byV xs).set i (.int .u8 (x : Nat)) = byV (xs.set i x) := by simp [byV, List.map_set]
/-- a list of bytes, owned -/
def OwnB (w : World) (base : Nat) (v : Value) (xs : List Nat) : Prop := w.ownsRow base 5 1 v xs.length (byV xs)
def RowB (w : World) (base g n cap : Nat) (xs : List Nat) : Prop := w.ownsRow base 5 1 (.slice (some ⟨g, 0, none⟩) n cap) n (byV xs)
theorem OwnB.lt {w : World} {base : Nat} {v : Value} {xs : List Nat} (h : OwnB w base v xs) : ∀ k, v.ownBlock = some k → base ≤ k ∧ k < w.heap.size := World.ownsRow.lt h
theorem OwnB.below {w w' : World} {base : Nat} {v : Value} {xs : List Nat} (h : OwnB w base v xs) (hb : Below w.heap.size w w') : OwnB w' base v xs := by
  unfold OwnB at *
  refine h.kept (row := none) ⟨hb.os, hb.tape, hb.output, hb.size, fun k hk _ => hb.block k hk⟩ ?_
  cases hv : v.ownBlock <;> simp
theorem OwnB.row {w : World} {base : Nat} {v : Value} {xs : List Nat} (h : OwnB w base v xs) (hp : 0 < xs.length) : ∃ g cap, v = .slice (some ⟨g, 0, none⟩) xs.length cap ∧ cap ≤ maxLen ∧ xs.length ≤ cap ∧ base ≤ g ∧ RowB w base g xs.length cap xs := by
  rcases h.2 with ⟨_, h0⟩ | ⟨g, cap, cur, rfl, hb, hg, hnc, hcm, hcs, ht⟩
  · omega
  · exact ⟨g, cap, rfl, hcm, hnc, hb, h⟩
theorem RowB.cell {w : World} {base g n cap : Nat} {xs : List Nat} (h : RowB w base g n cap xs) (hl : xs.length = n) (i : Nat) (hi : i < n) : w.cell? ⟨g, i, none⟩ = some (.int .u8 (lm xs i : Nat)) := by
  rw [World.ownsRow.cellAt h i (by omega), byV_get _ _ (by omega)]
theorem RowB.free {w : World} {base g n cap : Nat} {xs : List Nat} (h : RowB w base g n cap xs) (i : Nat) : w.frozen? ⟨g, i, none⟩ = false := World.ownsRow.frozenAt h i
theorem RowB.set {w : World} {base g n cap : Nat} {xs : List Nat} (h : RowB w base g n cap xs) (i x : Nat) : RowB (w.setCell ⟨g, i, none⟩ (.int .u8 (x : Nat))) base g n cap (xs.set i x) := by
  have := (World.ownsRow.stored h i (.int .u8 (x : Nat))).1
  rw [byV_set] at this; exact this
/-- one more byte behind what is owned -/
theorem ownb_step {w5 w6 w1 : World} {base T : Nat} {v5 v6 : Value} {acc : List Nat} {x : Int} {n : Nat} (hx : x = (n : Int)) {o : Obj} (hO : OwnB w5 base v5 acc)
    (hown6 : w6.ownsRow base 5 1 v6 (acc.length + 1) (byV acc ++ [Value.int .u8 x])) (hgrow6 : (w5.alloc o).grownBy w6 v5.ownBlock) (hB5 : Below T w1 w5) (hT : T ≤ w5.heap.size) (hb : T ≤ base) :
    OwnB w6 base v6 (acc ++ [n]) ∧ Below T w1 w6 := by
  constructor
  · subst hx
    have e1 : byV acc ++ [Value.int .u8 (n : Int)] = byV (acc ++ [n]) := by simp [byV]
    rw [e1] at hown6
    show World.ownsRow _ _ _ _ _ _ _; simpa using hown6
  · exact (hB5.alloc hT o).grown hgrow6 (by simp; omega) (fun k hk => Nat.le_trans hb (hO.lt k hk).1)
theorem apart {w : World} {b1 b2 : Nat} {u v : Value} {xs ys : List Nat} (h : Own w b1 u xs) (k : OwnB w b2 v ys) : u.ownBlock = none ∨ u.ownBlock ≠ v.ownBlock := by
  rcases h.2 with ⟨rfl, _⟩ | ⟨g, cap, cur, rfl, _, hg, _⟩
  · exact .inl rfl
  · rcases k.2 with ⟨rfl, _⟩ | ⟨g', cap', cur', rfl, _, hg', _⟩
    · exact .inr (by simp [Value.ownBlock])
    · refine .inr (fun e => ?_)
      simp only [Value.ownBlock, Option.some.injEq] at e
      subst e
      rw [hg] at hg'
      simp at hg'
/-- the low digits, low one first, as signs -/
def lowr (j N : Nat) : List Nat := (List.range j).map fun i => 48 + N / 10 ^ i % 10
theorem lowr_length (j N : Nat) : (lowr j N).length = j := by simp [lowr]
theorem lowr_succ (j N : Nat) : lowr (j + 1) N = lowr j N ++ [48 + N / 10 ^ j % 10] := by simp [lowr, List.range_succ]
theorem lowr_rev (k N : Nat) : (lowr (k + 1) N).reverse = (digs k N).map (48 + ·) := by
  apply List.ext_getElem?
  intro i
  by_cases h : i ≤ k
  · rw [List.getElem?_reverse (by rw [lowr_length]; omega), List.getElem?_map, digs_get k N i h, lowr_length]
    rw [lowr, List.getElem?_map, List.getElem?_range (by omega)]
    simp only [Option.map_some, show k + 1 - 1 - i = k - i by omega]
  · rw [List.getElem?_eq_none (by rw [List.length_reverse, lowr_length]; omega), List.getElem?_eq_none (by rw [List.length_map, digs_length]; omega)]

/-- i pairs swapped, from the ends on -/
def fl (xs : List Nat) : Nat → List Nat
  | 0 => xs
  | i + 1 => ((fl xs i).set i (lm xs (xs.length - 1 - i))).set (xs.length - 1 - i) (lm xs i)
theorem fl_length (xs : List Nat) (i : Nat) : (fl xs i).length = xs.length := by
  induction i with
  | zero => rfl
  | succ i ih => simp [fl, ih]
theorem fl_at (xs : List Nat) (i j : Nat) (hi : 2 * i ≤ xs.length) (hj : j < xs.length) : lm (fl xs i) j = if j < i ∨ xs.length - i ≤ j then lm xs (xs.length - 1 - j) else lm xs j := by
  induction i generalizing j with
  | zero => rw [if_neg (by omega)]; rfl
  | succ i ih =>
    have e1 : ∀ (ys : List Nat) (p x q : Nat), p < ys.length → lm (ys.set p x) q = if p = q then x else lm ys q := by
      intro ys p x q hp
      unfold lm
      rw [List.getD_eq_getElem?_getD, List.getD_eq_getElem?_getD, List.getElem?_set]
      by_cases h : p = q
      · subst h; simp [hp]
      · simp [h]
    rw [fl, e1 _ _ _ _ (by rw [List.length_set, fl_length]; omega), e1 _ _ _ _ (by rw [fl_length]; omega), ih j (by omega) hj]
    by_cases c1 : xs.length - 1 - i = j
    · rw [if_pos c1, if_pos (by omega)]; congr 1; omega
    · rw [if_neg c1]
      by_cases c2 : i = j
      · rw [if_pos c2, if_pos (by omega), c2]
      · rw [if_neg c2]
        by_cases c3 : j < i ∨ xs.length - i ≤ j
        · rw [if_pos c3, if_pos (by omega)]
        · rw [if_neg c3, if_neg (by omega)]
theorem fl_end (xs : List Nat) : fl xs (xs.length / 2) = xs.reverse := by
  apply List.ext_getElem (by rw [fl_length, List.length_reverse])
  intro j h1 h2
  rw [fl_length] at h1
  have := fl_at xs (xs.length / 2) j (by omega) h1
  rw [lm_get _ _ (by rw [fl_length]; exact h1)] at this
  rw [this, List.getElem_reverse]
  by_cases c : j < xs.length / 2 ∨ xs.length - xs.length / 2 ≤ j
  · rw [if_pos c, lm_get _ _ (by omega)]
  · rw [if_neg c, ← lm_get _ _ (by omega)]; congr 1; omega

theorem lowr_byts {N j : Nat} (hj : 0 < j) (h1 : N < 10 ^ j) (h2 : 10 ^ (j - 1) ≤ N) : (lowr j N).reverse = (dec N).map (48 + ·) := by
  obtain ⟨k, rfl⟩ : ∃ k, j = k + 1 := ⟨j - 1, by omega⟩
  rw [lowr_rev]
  unfold dec
  rw [nd_unique h1 (.inr h2)]
theorem byts_map (ds : List Nat) : (ds.map (48 + ·)).map (fun (x : Nat) => (x : Int)) = byts ds := by
  simp [byts]
/-- a number of so many digits to the base 65536 has no more decimal ones than that -/
theorem ddig_few {N j k : Nat} (h : (D.lim N).length ≤ k) (hj : j = 0 ∨ 10 ^ (j - 1) ≤ N) : j ≤ 16 * k + 1 := by
  rcases hj with h0 | h0
  · omega
  · have h1 : N < D.BB ^ k := by
      have := D.val_lt (D.ok_lim N)
      rw [D.val_lim] at this
      exact Nat.lt_of_lt_of_le this (Nat.pow_le_pow_right D.BB_pos h)
    have h2 : 2 ^ (j - 1) ≤ 10 ^ (j - 1) := Nat.pow_le_pow_left (by decide) _
    have h3 : D.BB ^ k = 2 ^ (16 * k) := by rw [show D.BB = 2 ^ 16 from rfl, ← Nat.pow_mul]
    have h4 : 2 ^ (j - 1) < 2 ^ (16 * k) := by rw [← h3]; exact Nat.lt_of_le_of_lt (Nat.le_trans h2 h0) h1
    have := (Nat.pow_lt_pow_iff_right (by decide)).1 h4
    omega
theorem dlim_digit {r : Nat} (h : r < 65536) (h0 : r ≠ 0) : D.lim r = [r] := by
  have hB : r < D.BB := h
  rw [D.lim_pos (Nat.pos_of_ne_zero h0), Nat.div_eq_of_lt hB, Nat.mod_eq_of_lt hB]; rfl

theorem Own.lower2 {w : World} {base base' : Nat} {v : Value} {xs : List Nat} (h : Own w base v xs) (hb : base' ≤ base) : Own w base' v xs := by
  refine ⟨h.1, ?_⟩
  rcases h.2 with k | ⟨g, cap, cur, e, hg, r⟩
  · exact .inl k
  · exact .inr ⟨g, cap, cur, e, Nat.le_trans hb hg, r⟩
def lenV : Value → Nat
  | .slice _ n _ => n
  | _ => 0
theorem OwnB.len {w : World} {base : Nat} {v : Value} {xs : List Nat} (h : OwnB w base v xs) : lenV v = xs.length := by
  rcases h.2 with ⟨rfl, h0⟩ | ⟨g, cap, cur, rfl, _⟩
  · exact h0.symm
  · rfl
theorem OwnB.shape {w : World} {base : Nat} {v : Value} {xs : List Nat} (h : OwnB w base v xs) : ∃ a c, v = .slice a xs.length c ∧ xs.length ≤ c ∧ c ≤ maxLen := by
  rcases h.2 with ⟨rfl, h0⟩ | ⟨g, cap, cur, rfl, _, _, h1, h2, _⟩
  · exact ⟨none, 0, by rw [h0], by omega, Nat.zero_le _⟩
  · exact ⟨_, cap, rfl, h1, h2⟩

set_option maxRecDepth 100000 in
set_option maxHeartbeats 4000000 in
theorem rtext2_any (v : Value) (z : Int) (w : World) (h : RInt w v z) (hl : (D.lim z.natAbs).length ≤ 1000000) :
    Calls Try.prog 27 #[v] w fun e w' => e = .returned (.string (itxt z)) ∧ Below w.heap.size w w' := by
  obtain ⟨i0, hi, hz0, hz1, hz2⟩ := info_parts Try.info5
  obtain ⟨b, N, a, c, rfl, hn, hz, h0⟩ := h
  rw [hz, sg_abs] at hl
  have HLE := hide hl
  have HT : Hid (itxt z = strOfNums ((if b then [45] else []) ++ byts (dec N))) := hide (by
    rw [hz]
    cases b with
    | false => have := itxt_pos N; simp only [Ending.returned.injEq, Value.string.injEq] at this; rw [← this]; rfl
    | true => have := itxt_neg N (fun e => absurd (h0 e) (by decide)); simp only [Ending.returned.injEq, Value.string.injEq] at this; rw [← this]; rfl)
  have HBX := hide (Box2.new w 57 (.bool b) (.slice a (D.lim N).length c))
  have HN := hide (hn.below (below_alloc w (.cells #[.bool b, .slice a (D.lim N).length c] 57)))
  have H0 := hide h0
  clear hn hl h0 hz
  have hbx0 := HBX.out.cell0
  have hbx1 := HBX.out.cell1
  go_enter Try.func27, Try.ntmps27
  go_wp2
  clear hbx0 hbx1
  go_loopw [3, 4, 5, 6, 7] (fun lv dv qv rv cv wr => ∃ j : Nat, OwnB wr (w.heap.size + 1) lv (lowr j N) ∧ Nums wr dv (D.lim (N / 10 ^ j)) ∧ (lv = .slice none 0 0 ∨ Own wr (w.heap.size + 1) dv (D.lim (N / 10 ^ j))) ∧ (j = 0 ∨ 10 ^ (j - 1) ≤ N) ∧ Below (w.heap.size + 1) (w.alloc (.cells #[.bool b, .slice a (D.lim N).length c] 57)) wr) (fun lv _ _ _ _ _ => 16 * 1000000 + 2 - lenV lv)
  case atStart => exact ⟨0, World.ownsRow_nil _ _ _ _, by simpa using HN.out, .inl rfl, .inl rfl, Below.refl _ _⟩
  case round =>
    obtain ⟨j, hO, hN, hA, hj, hbel⟩ := hrel
    obtain ⟨wo, rfl⟩ : ∃ wo, wo = wr := ⟨_, rfl⟩
    have HO := hide hO
    have HNd := hide hN
    have HA := hide hA
    have HJ := hide hj
    have HBE := hide hbel
    have HB2 := hide (HBX.out.below hbel (Nat.lt_succ_self _))
    have HBW := hide ((below_alloc w (.cells #[.bool b, .slice a (D.lim N).length c] 57)).trans (hbel.mono (Nat.le_succ _)))
    have hjb := ddig_few HLE.out hj
    obtain ⟨la, lc, hlv, hlc1, hlc2⟩ := hO.shape
    rw [lowr_length] at hlv hlc1
    subst hlv
    unfold maxLen at hlc2
    clear hO hA hj hbel
    by_cases hm0 : N / 10 ^ j = 0
    · have HM0 := hide hm0
      rw [hm0, D.lim_zero] at hN
      obtain ⟨_, da, dc, rfl, _, hmd, _⟩ := hN
      simp only [List.length_nil]
      clear hm0 hmd
      have HEND : Hid (j = 0 → N = 0) := hide (fun h => by have := HM0.out; rw [h] at this; simpa using this)
      have HLT : Hid (0 < j → (lowr j N).reverse = (dec N).map (48 + ·)) := hide (fun hj0 => by
        have hlt : N < 10 ^ j := by
          rcases Nat.lt_or_ge N (10 ^ j) with h | h
          · exact h
          · have := Nat.div_pos h (pow_pos10 j); have := HM0.out; omega
        exact lowr_byts hj0 hlt (by rcases HJ.out with h | h; omega; exact h))
      have hb0 := HB2.out.cell0
      by_cases hj0 : j = 0
      · subst hj0
        have e : N = 0 := HEND.out rfl
        subst e
        have hbf : b = false := H0.out rfl
        subst hbf
        go_wp2
        go_ret
        exact ⟨by rw [HT.out]; rfl, HBW.out⟩
      · have hjp : 0 < j := by omega
        have hjz : ((j : Int) == 0) = false := by rw [beq_eq_false_iff_ne]; omega
        cases b with
        | false =>
          obtain ⟨X, hX⟩ : ∃ X, X = lowr j N := ⟨_, rfl⟩
          have HX : Hid (OwnB wo (w.heap.size + 1) (.slice la j lc) X) := hide (by rw [hX]; exact HO.out)
          have HXN : Hid (X.length = j) := hide (by rw [hX, lowr_length])
          have HXL : Hid (X.length ≤ 16000001) := hide (by rw [hX, lowr_length]; omega)
          have HXR : Hid (X.reverse.map (fun (x : Nat) => (x : Int)) = (if false then [45] else []) ++ byts (dec N)) := hide (by rw [hX, HLT.out hjp, byts_map]; rfl)
          clear hX HO HNd HA HBE HB2
          obtain ⟨g, cap, he, hcm, hnc, hbg, hrow⟩ := HX.out.row (by have := HXN.out; omega)
          simp only [Value.slice.injEq] at he
          obtain ⟨rfl, hjX, rfl⟩ := he
          rw [hjX]
          clear hjX
          have HRW := hide hrow
          have HBG := hide hbg
          unfold maxLen at hcm
          obtain ⟨n, hn⟩ : ∃ n, n = X.length := ⟨_, rfl⟩
          have HNN := hide hn
          rw [← hn] at hnc hrow HRW ⊢
          have hnp : 0 < n := by have := HXN.out; omega
          have hnb : n ≤ 16000010 := by have := HXL.out; omega
          clear hrow hbg hn HX
          go_wp2
          go_loopw [8] (fun iv wr => ∃ i : Nat, i ≤ n / 2 ∧ iv = .int .i64 i ∧ RowB wr (w.heap.size + 1) g n lc (fl X i) ∧ Below w.heap.size w wr) (fun iv _ => n - (intOf iv).toNat)
          case atStart => exact ⟨0, Nat.zero_le _, rfl, HRW.out, HBW.out⟩
          case round =>
            clear HRW HBW
            obtain ⟨i, hi2, rfl, hrow, hbel⟩ := hrel
            have hfl : (fl X i).length = n := by rw [fl_length]; exact HNN.out.symm
            by_cases hlt : i < n / 2
            · have hc1 := hrow.cell hfl i (by omega)
              have hc2 := hrow.cell hfl (n - 1 - i) (by omega)
              rw [fl_at X i i (by have := HNN.out; omega) (by have := HNN.out; omega), if_neg (by have := HNN.out; omega)] at hc1
              rw [fl_at X i (n - 1 - i) (by have := HNN.out; omega) (by have := HNN.out; omega), if_neg (by have := HNN.out; omega)] at hc2
              have hf1 := hrow.free i
              have hf2 := hrow.free (n - 1 - i)
              have HRW := hide hrow
              have HBW := hide hbel
              have HFL := hide hfl
              clear hrow hbel hfl
              have ht : ((n : Int) - 1 - (i : Int)) = ((n - 1 - i : Nat) : Int) := by omega
              have hltI : (i : Int) < (n : Int) / 2 := by omega
              obtain ⟨p, hp⟩ : ∃ p, p = n - 1 - i := ⟨_, rfl⟩
              have HP := hide hp
              rw [← hp] at hc2 hf2 ht
              have hpn : p < n := by omega
              have hip : i < p := by omega
              have hin : i < n := by omega
              clear hp
              go_wp2
              go_region
              all_goals
                go_wp2
                go_roundw
                case rel =>
                  refine ⟨i + 1, by omega, by go_num, ?_, ?_⟩
                  · have h1 := (HRW.out.set i (lm X p)).set p (lm X i)
                    rw [HP.out, HNN.out] at h1
                    rw [HP.out, HNN.out]
                    exact h1
                  · exact ((HBW.out.setCell (p := ⟨g, i, none⟩) (by have := HBG.out; show _ ≤ g; omega) _).setCell (p := ⟨g, p, none⟩) (by have := HBG.out; show _ ≤ g; omega) _).drew
                case measure => simp [intOf]; omega
            · have e : i = n / 2 := by omega
              subst e
              have hfe := fl_end X
              rw [← HNN.out] at hfe
              rw [hfe] at hrow
              obtain ⟨Y, hY⟩ : ∃ Y, Y = X.reverse.map (fun (x : Nat) => (x : Int)) := ⟨_, rfl⟩
              have HY := hide hY
              have hconv := run_convert_bytes_arg (P := Try.prog) wr 86 5 Try.underlying86 Try.underlying5 g 0 n lc Y (by rw [hY, List.length_map, List.length_reverse]; exact HNN.out.symm) (by
                intro k hk
                have hk' : k < X.reverse.length := by rw [List.length_reverse, ← HNN.out]; exact hk
                rw [show 0 + k = k from by omega, World.ownsRow.cellAt hrow k (by omega), byV_get _ _ hk', hY]
                simp only [lm, List.getD_eq_getElem?_getD, List.getElem?_map, List.getElem?_eq_getElem hk']
                rfl) 9 Try.underlying9
              clear hY
              have HBW := hide hbel
              clear hrow hbel hfl hfe
              go_wp2
              go_ret
              refine ⟨?_, HBW.out⟩
              rw [HT.out, ← HXR.out, ← HY.out]
              rfl
        | true =>
          have hlen := lowr_length j N
          have hbs : w.heap.size + 1 ≤ wo.heap.size := by have := HBE.out.size; rw [World.size_alloc] at this; omega
          go_wp2_with (at_builtin; refine wpList_append_own _ rfl _ _ 86 rfl (w.heap.size + 1) 5 i0 (.int .u8 0) 1 1 Try.underlying86 hi hz0 hz1 hz2 rfl (by decide) _ _ _ rfl (World.ownsRow.alloc HO.out _) ⟨_, 0, none⟩ 1 1 [.int .u8 45] rfl rfl ?_ ?_ ?_ ?_ ?_ ?_)
          · rfl
          · unfold maxLen; omega
          · omega
          · first | omega | (simp; omega)
          · intro v6 w6 hown6 hgrow6 _
            skip
            obtain ⟨hO6, hB6⟩ := ownb_step (n := 45) rfl HO.out (by rw [lowr_length]; exact hown6) hgrow6 HBW.out (by have := HBE.out.size; rw [World.size_alloc] at this; omega) (Nat.le_succ _)
            obtain ⟨X, hX⟩ : ∃ X, X = lowr j N ++ [45] := ⟨_, rfl⟩
            have HX : Hid (OwnB w6 (w.heap.size + 1) v6 X) := hide (by rw [hX]; exact hO6)
            have HXN : Hid (X.length = j + 1) := hide (by rw [hX, List.length_append, lowr_length]; rfl)
            have HXL : Hid (X.length ≤ 16000002) := hide (by have := HXN.out; omega)
            have HXR : Hid (X.reverse.map (fun (x : Nat) => (x : Int)) = (if true then [45] else []) ++ byts (dec N)) := hide (by rw [hX, List.reverse_append, HLT.out hjp, List.map_append, byts_map]; rfl)
            have HBV := hide hB6
            clear hX HO HNd HA HBE HB2 HBW hown6 hgrow6 hO6 hB6 hb0
            have HBW := hide HBV.out
            clear HBV
            obtain ⟨g, cap, rfl, hcm, hnc, hbg, hrow⟩ := HX.out.row (by have := HXN.out; omega)
            have HRW := hide hrow
            have HBG := hide hbg
            unfold maxLen at hcm
            obtain ⟨n, hn⟩ : ∃ n, n = X.length := ⟨_, rfl⟩
            have HNN := hide hn
            rw [← hn] at hnc hrow HRW ⊢
            have hnp : 0 < n := by have := HXN.out; omega
            have hnb : n ≤ 16000010 := by have := HXL.out; omega
            clear hrow hbg hn HX
            go_wp2
            go_loopw [8] (fun iv wr => ∃ i : Nat, i ≤ n / 2 ∧ iv = .int .i64 i ∧ RowB wr (w.heap.size + 1) g n cap (fl X i) ∧ Below w.heap.size w wr) (fun iv _ => n - (intOf iv).toNat)
            case atStart => exact ⟨0, Nat.zero_le _, rfl, HRW.out, HBW.out⟩
            case round =>
              clear HRW HBW
              obtain ⟨i, hi2, rfl, hrow, hbel⟩ := hrel
              have hfl : (fl X i).length = n := by rw [fl_length]; exact HNN.out.symm
              by_cases hlt : i < n / 2
              · have hc1 := hrow.cell hfl i (by omega)
                have hc2 := hrow.cell hfl (n - 1 - i) (by omega)
                rw [fl_at X i i (by have := HNN.out; omega) (by have := HNN.out; omega), if_neg (by have := HNN.out; omega)] at hc1
                rw [fl_at X i (n - 1 - i) (by have := HNN.out; omega) (by have := HNN.out; omega), if_neg (by have := HNN.out; omega)] at hc2
                have hf1 := hrow.free i
                have hf2 := hrow.free (n - 1 - i)
                have HRW := hide hrow
                have HBW := hide hbel
                have HFL := hide hfl
                clear hrow hbel hfl
                have ht : ((n : Int) - 1 - (i : Int)) = ((n - 1 - i : Nat) : Int) := by omega
                have hltI : (i : Int) < (n : Int) / 2 := by omega
                obtain ⟨p, hp⟩ : ∃ p, p = n - 1 - i := ⟨_, rfl⟩
                have HP := hide hp
                rw [← hp] at hc2 hf2 ht
                have hpn : p < n := by omega
                have hip : i < p := by omega
                have hin : i < n := by omega
                clear hp
                go_wp2
                go_region
                all_goals
                  go_wp2
                  go_roundw
                  case rel =>
                    refine ⟨i + 1, by omega, by go_num, ?_, ?_⟩
                    · have h1 := (HRW.out.set i (lm X p)).set p (lm X i)
                      rw [HP.out, HNN.out] at h1
                      rw [HP.out, HNN.out]
                      exact h1
                    · exact ((HBW.out.setCell (p := ⟨g, i, none⟩) (by have := HBG.out; show _ ≤ g; omega) _).setCell (p := ⟨g, p, none⟩) (by have := HBG.out; show _ ≤ g; omega) _).drew
                  case measure => simp [intOf]; omega
              · have e : i = n / 2 := by omega
                subst e
                have hfe := fl_end X
                rw [← HNN.out] at hfe
                rw [hfe] at hrow
                obtain ⟨Y, hY⟩ : ∃ Y, Y = X.reverse.map (fun (x : Nat) => (x : Int)) := ⟨_, rfl⟩
                have HY := hide hY
                have hconv := run_convert_bytes_arg (P := Try.prog) wr 86 5 Try.underlying86 Try.underlying5 g 0 n cap Y (by rw [hY, List.length_map, List.length_reverse]; exact HNN.out.symm) (by
                  intro k hk
                  have hk' : k < X.reverse.length := by rw [List.length_reverse, ← HNN.out]; exact hk
                  rw [show 0 + k = k from by omega, World.ownsRow.cellAt hrow k (by omega), byV_get _ _ hk', hY]
                  simp only [lm, List.getD_eq_getElem?_getD, List.getElem?_map, List.getElem?_eq_getElem hk']
                  rfl) 9 Try.underlying9
                clear hY
                have HBW := hide hbel
                clear hrow hbel hfl hfe
                go_wp2
                go_ret
                refine ⟨?_, HBW.out⟩
                rw [HT.out, ← HXR.out, ← HY.out]
                rfl
    · have HM0 := hide (Nat.pos_of_ne_zero hm0)
      have HDM : Hid (N / 10 ^ (j + 1) = N / 10 ^ j / 10) := hide (by rw [Nat.pow_succ, Nat.div_div_eq_div_mul])
      have HDG : Hid (10 ^ j ≤ N) := hide (by
        rcases Nat.lt_or_ge N (10 ^ j) with h | h
        · rw [Nat.div_eq_of_lt h] at hm0; exact absurd rfl hm0
        · exact h)
      have hjb2 := ddig_few (j := j + 1) HLE.out (.inr (by simpa using HDG.out))
      have HLM : Hid ((D.lim (N / 10 ^ j)).length ≤ 1000000) := hide (Nat.le_trans (D.lim_length_le (Nat.lt_of_le_of_lt (Nat.div_le_self _ _) (by have := D.val_lt (D.ok_lim N); rw [D.val_lim] at this; exact this))) HLE.out)
      obtain ⟨m, hm⟩ : ∃ m, m = N / 10 ^ j := ⟨_, rfl⟩
      have HME := hide hm
      rw [← hm] at hN
      clear hm hm0
      rw [← HME.out] at HM0 HLM HDM HNd HA
      have hpl : 0 < (D.lim m).length := by rw [D.lim_pos HM0.out]; simp
      have hl6 := HLM.out
      obtain ⟨_, da, dc, rfl, hlc, hmc, hcc⟩ := hN
      unfold maxLen at hmc
      clear hcc
      generalize hL : (D.lim m).length = L at *
      go_wp2_with fail
      refine (rdiv1_any _ _ m 10 _ (HNd.out.below (below_alloc _ _)) (dnums_lit wo 10 10 rfl (by decide)).1 (by decide) (by decide) (by omega)).mono ?_
      rintro e w3 ⟨qv, rv, rfl, hq, hr, hb3⟩
      have hal := below_alloc wo (.cells #[.int .u32 10] 84)
      have hb3' := hal.trans (hb3.mono (by rw [World.size_alloc]; omega))
      have HQ := hide (Own.lower2 hq (base' := (w.heap.size + 1)) (by have := HBE.out.size; rw [World.size_alloc] at this ⊢; omega))
      replace HO := hide (HO.out.below hb3')
      replace HBW := hide (HBW.out.trans (hb3'.mono HBW.out.size))
      replace HBE := hide (HBE.out.trans (hb3'.mono (by have := HBE.out.size; rw [World.size_alloc] at this; omega)))
      have hlen := lowr_length j N
      have hbs : w.heap.size + 1 ≤ w3.heap.size := by have := HBE.out.size; rw [World.size_alloc] at this; omega
      have HRV := hide hr
      clear hq hr hb3 hal hb3' HNd HA HB2
      have hr10 : m % 10 < 10 := Nat.mod_lt _ (by decide)
      have HDD : Hid (N / 10 ^ j % 10 = m % 10) := hide (by rw [HME.out])
      obtain ⟨r, hr⟩ : ∃ r, r = m % 10 := ⟨_, rfl⟩
      rw [← hr] at HRV HDD hr10
      clear hr
      by_cases hr0 : r = 0
      · subst hr0
        have hrv := HRV.out
        rw [D.lim_zero] at hrv
        obtain ⟨_, ra, rc, rfl, _, hmr, _⟩ := hrv
        simp only [List.length_nil]
        clear hmr HRV
        go_wp2_with (at_builtin; refine wpList_append_own _ rfl _ _ 86 rfl (w.heap.size + 1) 5 i0 (.int .u8 0) 1 1 Try.underlying86 hi hz0 hz1 hz2 rfl (by decide) _ _ _ rfl (World.ownsRow.alloc HO.out _) ⟨_, 0, none⟩ 1 1 [.int .u8 (48)] rfl rfl ?_ ?_ ?_ ?_ ?_ ?_)
        · intro i u hi'
          match i, hi' with
          | 0, hi' => simp at hi'; subst hi'; simp [Addr.add]
        · intro u hu; simp at hu; subst hu; rfl
        · unfold maxLen; omega
        · omega
        · simp; omega
        · intro v6 w6 hown6 hgrow6 _
          have HQ6 := hide (World.ownsRow.kept (World.ownsRow.alloc HQ.out _) hgrow6 (by have := apart HQ.out HO.out; simpa using this))
          obtain ⟨hO6, hB6⟩ := ownb_step (x := 48) (n := (48 + 0)) (by omega) HO.out (by rw [lowr_length]; exact hown6) hgrow6 HBE.out (by have := HBE.out.size; rw [World.size_alloc] at this; omega) (Nat.le_refl _)
          have HO6 : Hid (OwnB w6 (w.heap.size + 1) v6 (lowr (j + 1) N)) := hide (by rw [lowr_succ, HDD.out]; exact hO6)
          have HB6 := hide hB6
          clear hown6 hgrow6 hO6 hB6
          go_wp2
          go_roundw
          case rel => exact ⟨j + 1, HO6.out, by rw [HDM.out]; exact Own.nums HQ6.out (dok (D.ok_lim _)), .inr (by rw [HDM.out]; exact HQ6.out), .inr (by simpa using HDG.out), HB6.out⟩
          case measure => rw [HO6.out.len, lowr_length]; simp only [lenV]; omega
      · have hrv := HRV.out
        rw [dlim_digit (by omega) hr0] at hrv
        obtain ⟨_, ra, rc, rfl, hrc, hmr, hcr⟩ := hrv
        obtain ⟨rb, ro, rfl, hcs⟩ := hcr (by simp)
        have hrc0 : w3.cell? ⟨rb, ro, none⟩ = some (.int .u32 (r : Nat)) := by have := hcs 0 (by simp); simpa [lm] using this
        simp only [List.length_cons, List.length_nil, Nat.zero_add] at hrc ⊢
        unfold maxLen at hmr
        clear hcr hcs HRV
        go_wp2_with (at_builtin; refine wpList_append_own _ rfl _ _ 86 rfl (w.heap.size + 1) 5 i0 (.int .u8 0) 1 1 Try.underlying86 hi hz0 hz1 hz2 rfl (by decide) _ _ _ rfl (World.ownsRow.alloc HO.out _) ⟨_, 0, none⟩ 1 1 [.int .u8 (48 + (r : Int))] rfl rfl ?_ ?_ ?_ ?_ ?_ ?_)
        · intro i u hi'
          match i, hi' with
          | 0, hi' => simp at hi'; subst hi'; simp [Addr.add]
        · intro u hu; simp at hu; subst hu; rfl
        · unfold maxLen; omega
        · omega
        · simp; omega
        · intro v6 w6 hown6 hgrow6 _
          have HQ6 := hide (World.ownsRow.kept (World.ownsRow.alloc HQ.out _) hgrow6 (by have := apart HQ.out HO.out; simpa using this))
          obtain ⟨hO6, hB6⟩ := ownb_step (x := 48 + (r : Int)) (n := (48 + r)) (by omega) HO.out (by rw [lowr_length]; exact hown6) hgrow6 HBE.out (by have := HBE.out.size; rw [World.size_alloc] at this; omega) (Nat.le_refl _)
          have HO6 : Hid (OwnB w6 (w.heap.size + 1) v6 (lowr (j + 1) N)) := hide (by rw [lowr_succ, HDD.out]; exact hO6)
          have HB6 := hide hB6
          clear hown6 hgrow6 hO6 hB6
          go_wp2
          go_roundw
          case rel => exact ⟨j + 1, HO6.out, by rw [HDM.out]; exact Own.nums HQ6.out (dok (D.ok_lim _)), .inr (by rw [HDM.out]; exact HQ6.out), .inr (by simpa using HDG.out), HB6.out⟩
          case measure => rw [HO6.out.len, lowr_length]; simp only [lenV]; omega
end Go.Proofs.Ytgkibmigbjjnnaa

namespace Go.Proofs.Ytgkibmigbjjnnaa
open Go.RowKit

/-- a number and a word are handed back -/
theorem ret_rat1 {fn : Func} {R : Ending → World → Prop} {a : Act} {w : World} {p u : Tmp} (h : fn.results = #[.cell p 57, .tmp u]) (g : Nat) (x y : Value)
    (hp : a.tmps.getD p undef = .pointer (some ⟨g, 0, none⟩)) (hg : Box2 w g 57 x y) (hd : a.defers = []) (hR : R (.returned (.tuple #[.agg #[x, y], a.tmps.getD u undef])) w) : bodyPost Try.prog fn R .ret a w := by
  refine bodyPost_ret ?_ hd hR
  have hp' : a.tmps[p]?.getD undef = .pointer (some ⟨g, 0, none⟩) := by simpa using hp
  simp [results, h, hp', asAddr, run_loadVar_row w g 57 57 #[x, y] (0, 0) _ hg Try.underlying57 rfl Try.infoRef]
theorem rzero (w : World) : RInt w (.agg #[.bool false, .slice none 0 0]) 0 := ⟨false, 0, none, 0, rfl, Nums.nil_mk _ _ _ (Nat.zero_le _), rfl, fun _ => rfl⟩
theorem nv_dlen (s : ByteArray) (k : Nat) (h : Good s k) (hk : k ≤ 65536) : (D.lim (Int.natAbs (nv s k : Int))).length ≤ 100000000 ∧ (D.lim (Int.natAbs ((nv s k : Int) * 10))).length ≤ 100000000 := by
  have h1 := nv_lt s k h
  have h2 : 10 ^ k ≤ D.BB ^ k := Nat.pow_le_pow_left (by decide) _
  have h3 : 10 ^ (k + 1) ≤ D.BB ^ (k + 1) := Nat.pow_le_pow_left (by decide) _
  constructor
  · refine Nat.le_trans (D.lim_length_le (k := k) ?_) (by omega)
    rw [Int.natAbs_natCast]; omega
  · refine Nat.le_trans (D.lim_length_le (k := k + 1) ?_) (by omega)
    rw [show ((nv s k : Int) * 10) = ((nv s k * 10 : Nat) : Int) by omega, Int.natAbs_natCast]
    rw [pow_succ10] at h3
    omega
theorem dig_len (x : Nat) (h : x ≤ 9) : (D.lim (Int.natAbs (x : Int))).length ≤ 100000000 :=
  Nat.le_trans (D.lim_length_le (k := 1) (by rw [Int.natAbs_natCast]; unfold D.BB; omega)) (by decide)
theorem dig_wrap64 (x : Nat) (h : x ≤ 9) : IntKind.i64.wrap (IntKind.u8.wrap (48 + (x : Int) - 48)) = (x : Int) := by rw [IntKind.wrap_i64, IntKind.wrap_u8]; omega
theorem cutP_no {s : ByteArray} (h : hp s 45 = false) : cutP s 45 = s := by unfold cutP; rw [h]; rfl
theorem cutP_yes {s : ByteArray} (h : hp s 45 = true) : cutP s 45 = rest1 s := by unfold cutP; rw [h]; rfl

set_option maxRecDepth 100000 in
set_option maxHeartbeats 4000000 in
theorem rread2_any (s : ByteArray) (w : World) (hs : s.size ≤ 65536) :
    Calls Try.prog 62 #[.string s] w fun e w' => ∃ v z p, e = .returned (.tuple #[v, .int .i64 p]) ∧ RInt w' v z ∧ ((∃ a b : Nat, IRd s 0 a b ∧ a ≠ 0 ∧ z = 0 ∧ p = (b : Int)) ∨ (IRd s z 0 0 ∧ p = -1)) ∧ Below w.heap.size w w' := by
  have HE := hide (nboxes2 57 w (.bool false) (.slice none 0 0) (.bool false) (.slice none 0 0))
  go_enter Try.func62, Try.ntmps62
  cases hc : hp s 45 with
  | false =>
    obtain ⟨d, hd⟩ : ∃ d, d = s := ⟨_, rfl⟩
    have HDS : Hid (s.size = d.size) := hide (by rw [hd])
    have HBT : Hid (∀ k, bt d k = bt s k) := hide (fun k => by rw [hd])
    have HRD : Hid (∀ xs a b, Rd d xs a b → a ≠ 0 → ∀ i, i = b + 0 → IRd s 0 a i) := hide (fun xs a b h ha i hi => .inr (.inr ⟨hs, by rw [hc]; simp, xs, a, b, by rw [cutP_no hc, ← hd]; exact h, .inl ⟨ha, rfl, rfl, by rw [cutP_no hc]; omega⟩⟩))
    have HRZ0 : Hid (0 < s.size → Good d d.size → IRd s (sg false (nv d d.size)) 0 0) := hide (fun h0 hg => .inr (.inr ⟨hs, by rw [hc]; simp, _, 0, 0, by rw [cutP_no hc, ← hd]; exact .inr (.inr (.inr ⟨by rw [hd]; exact hs, by rw [hd]; exact h0, hg, rfl, rfl, rfl⟩)), .inr ⟨rfl, by rw [hc, val_lim], rfl, rfl⟩⟩))
    have HC := hide hc
    clear hc hd
    by_cases h0 : s.size = 0
    · go_wp2
      refine ret_rat1 rfl w.heap.size _ _ rfl (Box2.new _ _ _ _) rfl ?_
      exact ⟨_, 0, 0, rfl, rzero _, .inl ⟨6, 0, HRD.out [] 6 0 (.inr (.inl ⟨by have := HDS.out; omega, rfl, rfl, rfl⟩)) (by decide) 0 rfl, by decide, rfl, rfl⟩, below_alloc _ _⟩
    · have hz0 : 0 < s.size := by omega
      have HRZ := hide (HRZ0.out hz0)
      have hb0 := bt_get s 0 hz0
      have hn45 : bt s 0 ≠ 45 := hp_no HC.out hz0
      have hne : (((bt s 0 : Nat) : Int) == 45) = false := by rw [beq_eq_false_iff_ne]; omega
      have hse : ¬ s = ByteArray.empty := fun h => by rw [h] at hz0; exact absurd hz0 (by decide)
      clear h0 HRZ0 hn45
      by_cases c1 : bt s 0 < 48
      · go_wp2
        refine ret_rat1 rfl w.heap.size _ _ rfl (Box2.new _ _ _ _) rfl ?_
        exact ⟨_, 0, 0, rfl, rzero _, .inl ⟨6, 0, HRD.out [] 6 0 (.inr (.inr (.inl ⟨by have := HDS.out; omega, 0, by have := HDS.out; omega, Good.zero _, fun f => by have := f.lo; rw [HBT.out] at this; omega, rfl, rfl, rfl⟩))) (by decide) 0 rfl, by decide, rfl, rfl⟩, below_alloc _ _⟩
      by_cases c2 : 57 < bt s 0
      · go_wp2
        refine ret_rat1 rfl w.heap.size _ _ rfl (Box2.new _ _ _ _) rfl ?_
        exact ⟨_, 0, 0, rfl, rzero _, .inl ⟨6, 0, HRD.out [] 6 0 (.inr (.inr (.inl ⟨by have := HDS.out; omega, 0, by have := HDS.out; omega, Good.zero _, fun f => by have := f.hi; rw [HBT.out] at this; omega, rfl, rfl, rfl⟩))) (by decide) 0 rfl, by decide, rfl, rfl⟩, below_alloc _ _⟩
      go_wp2
      have HB := hide HE.out.2.2
      have HR := hide HE.out.1
      have HO : Hid (RVar _ (w.heap.size + 1) false none 0 0 (nv d (0 - 0) : Int)) := hide ⟨HE.out.2.1, rzero _⟩
      clear HE hne c1 c2 hb0
      go_loopw [6] (fun iv wr => ∃ i : Nat, 0 ≤ i ∧ i ≤ s.size ∧ iv = .int .i64 i ∧ Good d (i - 0) ∧ Below w.heap.size w wr ∧ Box2 wr w.heap.size 57 (.bool false) (.slice none 0 0) ∧ ∃ sb m n c, RVar wr (w.heap.size + 1) sb m n c (nv d (i - 0) : Int)) (fun iv _ => s.size - (intOf iv).toNat)
      case atStart => exact ⟨0, Nat.le_refl _, by omega, rfl, Good.zero _, HB.out, HR.out, _, _, _, _, HO.out⟩
      case round =>
        clear HB HR HO
        obtain ⟨i, hi1, hi2, rfl, hg, hB, hR, sb, m, n, c, hV⟩ := hrel
        have HG := hide hg
        have HB := hide hB
        have HR := hide hR
        have HV := hide hV
        clear hg hB hR hV
        by_cases hlt : i < s.size
        · have hb := bt_get s i hlt
          have hbt := bt_get s 0 (by omega)
          have HEI : Hid (bt s i = bt d (i - 0)) := hide (by rw [HBT.out (i - 0)]; congr 1)
          have HE0 : Hid (bt s 0 = bt d 0) := hide (by rw [HBT.out 0])
          by_cases c1 : bt s i < 48
          · skip
            have hr0 := HR.out.cell0
            have hr1 := HR.out.cell1
            have hf0 := HR.out.free 0
            have hf1 := HR.out.free 1
            go_wp2
            refine ret_rat1 rfl w.heap.size _ _ rfl (HR.out.put _ _) rfl ?_
            exact ⟨_, 0, i, rfl, rzero _, .inl ⟨6, i, HRD.out _ 6 (i - 0) (.inr (.inr (.inl ⟨by have := HDS.out; omega, (i - 0), by have := HDS.out; omega, HG.out, fun f => by have := f.lo; have := HEI.out; omega, rfl, rfl, rfl⟩))) (by decide) i (by omega), by decide, rfl, rfl⟩, below_put HB.out (Nat.le_refl _) _ _⟩
          by_cases c2 : 57 < bt s i
          · skip
            have hr0 := HR.out.cell0
            have hr1 := HR.out.cell1
            have hf0 := HR.out.free 0
            have hf1 := HR.out.free 1
            go_wp2
            refine ret_rat1 rfl w.heap.size _ _ rfl (HR.out.put _ _) rfl ?_
            exact ⟨_, 0, i, rfl, rzero _, .inl ⟨6, i, HRD.out _ 6 (i - 0) (.inr (.inr (.inl ⟨by have := HDS.out; omega, (i - 0), by have := HDS.out; omega, HG.out, fun f => by have := f.hi; have := HEI.out; omega, rfl, rfl, rfl⟩))) (by decide) i (by omega), by decide, rfl, rfl⟩, below_put HB.out (Nat.le_refl _) _ _⟩
          by_cases c3 : i = 1 ∧ bt s 0 = 48
          · obtain ⟨c3, c4⟩ := c3
            subst c3
            rw [c4] at hbt
            have hr0 := HR.out.cell0
            have hr1 := HR.out.cell1
            have hf0 := HR.out.free 0
            have hf1 := HR.out.free 1
            go_wp2
            refine ret_rat1 rfl w.heap.size _ _ rfl (HR.out.put _ _) rfl ?_
            exact ⟨_, 0, 1, rfl, rzero _, .inl ⟨6, 1, HRD.out _ 6 (1 - 0) (.inr (.inr (.inl ⟨by have := HDS.out; omega, (1 - 0), by have := HDS.out; omega, HG.out, fun f => f.lead (by omega) (by have := HE0.out; omega), rfl, rfl, rfl⟩))) (by decide) 1 (by omega), by decide, rfl, rfl⟩, below_put HB.out (Nat.le_refl _) _ _⟩
          have HF0 := hide (show Fine d (i - 0) from ⟨by have := HEI.out; omega, by have := HEI.out; omega, fun h1 h2 => by
            have f1 := HG.out 0 (by omega)
            by_cases h3 : i = 1
            · exact c3 ⟨h3, by have := HE0.out; omega⟩
            · exact (HG.out 1 (by omega)).lead (Nat.le_refl _) h2⟩)
          obtain ⟨x, hx⟩ : ∃ x, bt s i = 48 + x := ⟨bt s i - 48, by omega⟩
          have h9 : x ≤ 9 := by omega
          have HX : Hid (nv d (i + 1 - 0) = nv d (i - 0) * 10 + x) := hide (by rw [show i + 1 - 0 = (i - 0) + 1 by omega, nv, ← HEI.out, hx]; omega)
          have HLN := hide (nv_dlen d (i - 0) HG.out (by omega))
          rw [hx] at hb
          by_cases h3 : i = 1
          · subst h3
            have h4' : (((bt s 0 : Nat) : Int) == 48) = false := by rw [beq_eq_false_iff_ne]; intro h4; exact c3 ⟨rfl, by omega⟩
            clear c3 hx
            go_wp2_with fail
            refine wp_calm (fun w' => Below w.heap.size w w' ∧ Box2 w' w.heap.size 57 (.bool false) (.slice none 0 0) ∧ RVar w' (w.heap.size + 1) sb m n c (nv d (1 - 0) : Int)) (fun j => j != 10) 11 #[false, false, false, false, false, false, false, false, false, false, false] (by kernel_rfl) rfl rfl ?_
            have HF := hide (And.intro (HB.out.drew) (And.intro (HR.out.drew) (HV.out.drew)))
            generalize wr.drew = wrd at *
            refine Calm.take (i := 0) (v := ?_) (a' := ?_) (l' := #[true, false, false, false, false, false, false, false, false, false, false]) (d := some 74) rfl (by kernel_rfl) (by kernel_rfl) (by kernel_rfl) (by kernel_rfl) (fun _ _ _ h => h) HF.out rfl ?_ rfl rfl ?_ ?_
            rotate_left
            · intro w' hF; have f10 := hF.2.1.cell0; have f11 := hF.2.1.cell1; have f20 := hF.2.2.box.cell0; have f21 := hF.2.2.box.cell1; clear hF; go_simp; try rfl
            rotate_left
            · simp only [Act.put]; exact rfl
            refine Calm.take (i := 3) (v := ?_) (a' := ?_) (l' := #[true, false, false, true, false, false, false, false, false, false, false]) (d := some 77) rfl (by kernel_rfl) (by kernel_rfl) (by kernel_rfl) (by kernel_rfl) (fun _ _ _ h => h) HF.out rfl ?_ rfl rfl ?_ ?_
            rotate_left
            · intro w' hF; clear hF; go_simp; try rfl
            rotate_left
            · simp only [Act.put]; exact rfl
            refine Calm.take (i := 4) (v := ?_) (a' := ?_) (l' := #[true, false, false, true, true, false, false, false, false, false, false]) (d := some 78) rfl (by kernel_rfl) (by kernel_rfl) (by kernel_rfl) (by kernel_rfl) (fun _ _ _ h => h) HF.out rfl ?_ rfl rfl ?_ ?_
            rotate_left
            · intro w' hF; clear hF; go_simp; try rfl
            rotate_left
            · simp only [Act.put]; exact rfl
            refine Calm.take (i := 5) (v := ?_) (a' := ?_) (l' := #[true, false, false, true, true, true, false, false, false, false, false]) (d := some 79) rfl (by kernel_rfl) (by kernel_rfl) (by kernel_rfl) (by kernel_rfl) (fun _ _ _ h => h) HF.out rfl ?_ rfl rfl ?_ ?_
            rotate_left
            · intro w' hF; clear hF; go_simp; try rfl
            rotate_left
            · simp only [Act.put]; exact rfl
            refine Calm.take (i := 6) (v := ?_) (a' := ?_) (l' := #[true, false, false, true, true, true, true, false, false, false, false]) (d := some 80) rfl (by kernel_rfl) (by kernel_rfl) (by kernel_rfl) (by kernel_rfl) (fun _ _ _ h => h) HF.out rfl ?_ rfl rfl ?_ ?_
            rotate_left
            · intro w' hF; clear hF; go_simp; try rfl
            rotate_left
            · simp only [Act.put]; exact rfl
            refine Calm.take (i := 7) (v := ?_) (a' := ?_) (l' := #[true, false, false, true, true, true, true, true, false, false, false]) (d := some 81) rfl (by kernel_rfl) (by kernel_rfl) (by kernel_rfl) (by kernel_rfl) (fun _ _ _ h => h) HF.out rfl ?_ rfl rfl ?_ ?_
            rotate_left
            · intro w' hF; clear hF; go_simp; try rfl
            rotate_left
            · simp only [Act.put]; exact rfl
            refine Calm.one (i := 1) (l' := #[true, true, false, true, true, true, true, true, false, false, false]) (by kernel_rfl) rfl rfl rfl fun K hK => ?_
            go_simp
            refine (rof_any 10 _ (by decide) (by decide)).mono ?_
            rintro e u1 ⟨v1, rfl, n1, hb⟩
            have HF' := hide (And.intro (HF.out.1.trans ((hb).mono HF.out.1.size)) (And.intro (HF.out.2.1.step (hb)) (HF.out.2.2.step (hb))))
            have T1 := hide (n1)
            refine hK _ _ (fun _ => HF'.out) ?_
            clear hK K HF hb n1
            have HF := hide HF'.out
            clear HF'
            refine Calm.one (i := 2) (l' := #[true, true, true, true, true, true, true, true, false, false, false]) (by kernel_rfl) rfl rfl rfl fun K hK => ?_
            go_simp
            refine (rmul2_any _ _ (nv d (1 - 0) : Int) 10 _ HF.out.2.2.int T1.out HLN.out.1 (by decide)).mono ?_
            rintro e u2 ⟨v2, rfl, n2, hb⟩
            clear T1
            have HF' := hide (And.intro (HF.out.1.trans ((hb).mono HF.out.1.size)) (And.intro (HF.out.2.1.step (hb)) (HF.out.2.2.step (hb))))
            have T2 := hide (n2)
            refine hK _ _ (fun _ => HF'.out) ?_
            clear hK K HF hb n2
            have HF := hide HF'.out
            clear HF'
            refine Calm.one (i := 8) (l' := #[true, true, true, true, true, true, true, true, true, false, false]) (by kernel_rfl) rfl rfl rfl fun K hK => ?_
            go_simp
            rw [dig_wrap64 x h9]
            refine (rof_any (x : Int) _ (by omega) (by omega)).mono ?_
            rintro e u3 ⟨v3, rfl, n3, hb⟩
            replace T2 := hide (T2.out.below (hb))
            have HF' := hide (And.intro (HF.out.1.trans ((hb).mono HF.out.1.size)) (And.intro (HF.out.2.1.step (hb)) (HF.out.2.2.step (hb))))
            have T3 := hide (n3)
            refine hK _ _ (fun _ => HF'.out) ?_
            clear hK K HF hb n3
            have HF := hide HF'.out
            clear HF'
            refine Calm.one (i := 9) (l' := #[true, true, true, true, true, true, true, true, true, true, false]) (by kernel_rfl) rfl rfl rfl fun K hK => ?_
            go_simp
            refine (radd2_any _ _ ((nv d (1 - 0) : Int) * 10) (x : Int) _ T2.out T3.out HLN.out.2 (dig_len x h9)).mono ?_
            rintro e u4 ⟨v4, rfl, n4, hb⟩
            obtain ⟨b4, k4, a4, c4, rfl, m4, e4, z4⟩ := n4
            have n4 : RInt u4 (.agg #[.bool b4, .slice a4 (D.lim k4).length c4]) (((nv d (1 - 0) : Int) * 10) + (x : Int)) := ⟨b4, k4, a4, c4, rfl, m4, e4, z4⟩
            clear T2
            clear T3
            have HF' := hide (And.intro (HF.out.1.trans ((hb).mono HF.out.1.size)) (And.intro (HF.out.2.1.step (hb)) (HF.out.2.2.step (hb))))
            have T4 := hide (n4)
            refine hK _ _ (fun _ => HF'.out) ?_
            clear hK K HF hb n4 m4 e4 z4
            have HF := hide HF'.out
            clear HF'
            refine Calm.one (i := 10) (l' := #[true, true, true, true, true, true, true, true, true, true, true]) (by kernel_rfl) rfl rfl rfl fun K hK => ?_
            have hc0 := HF.out.2.2.box.cell0
            have hc1 := HF.out.2.2.box.cell1
            have hf0 := HF.out.2.2.box.free 0
            have hf1 := HF.out.2.2.box.free 1
            go_simp
            refine hK _ _ (fun h => absurd h (by decide)) ?_
            clear hK K
            refine Calm.done (by kernel_rfl) ?_
            go_wp2
            go_roundw
            case rel => exact ⟨1 + 1, by omega, by omega, by go_num, by rw [show 1 + 1 - 0 = 1 - 0 + 1 by omega]; exact HG.out.succ HF0.out, below_put HF.out.1 (Nat.le_succ _) _ _, HF.out.2.1.other (by omega) _ _, b4, a4, _, c4, ⟨HF.out.2.2.box.put _ _, by rw [HX.out]; have := T4.out.keep (keeps2 HF.out.2.2.box (by simp) (by simp) (.bool b4) (.slice a4 (D.lim k4).length c4)); simpa using this⟩⟩
            case measure => simp [intOf]; omega
          · have h3' : ((i : Int) == 1) = false := by rw [beq_eq_false_iff_ne]; omega
            clear c3 hx h3
            go_wp2_with fail
            refine wp_calm (fun w' => Below w.heap.size w w' ∧ Box2 w' w.heap.size 57 (.bool false) (.slice none 0 0) ∧ RVar w' (w.heap.size + 1) sb m n c (nv d (i - 0) : Int)) (fun j => j != 10) 11 #[false, false, false, false, false, false, false, false, false, false, false] (by kernel_rfl) rfl rfl ?_
            have HF := hide (And.intro (HB.out.drew) (And.intro (HR.out.drew) (HV.out.drew)))
            generalize wr.drew = wrd at *
            refine Calm.take (i := 0) (v := ?_) (a' := ?_) (l' := #[true, false, false, false, false, false, false, false, false, false, false]) (d := some 74) rfl (by kernel_rfl) (by kernel_rfl) (by kernel_rfl) (by kernel_rfl) (fun _ _ _ h => h) HF.out rfl ?_ rfl rfl ?_ ?_
            rotate_left
            · intro w' hF; have f10 := hF.2.1.cell0; have f11 := hF.2.1.cell1; have f20 := hF.2.2.box.cell0; have f21 := hF.2.2.box.cell1; clear hF; go_simp; try rfl
            rotate_left
            · simp only [Act.put]; exact rfl
            refine Calm.take (i := 3) (v := ?_) (a' := ?_) (l' := #[true, false, false, true, false, false, false, false, false, false, false]) (d := some 77) rfl (by kernel_rfl) (by kernel_rfl) (by kernel_rfl) (by kernel_rfl) (fun _ _ _ h => h) HF.out rfl ?_ rfl rfl ?_ ?_
            rotate_left
            · intro w' hF; clear hF; go_simp; try rfl
            rotate_left
            · simp only [Act.put]; exact rfl
            refine Calm.take (i := 4) (v := ?_) (a' := ?_) (l' := #[true, false, false, true, true, false, false, false, false, false, false]) (d := some 78) rfl (by kernel_rfl) (by kernel_rfl) (by kernel_rfl) (by kernel_rfl) (fun _ _ _ h => h) HF.out rfl ?_ rfl rfl ?_ ?_
            rotate_left
            · intro w' hF; clear hF; go_simp; try rfl
            rotate_left
            · simp only [Act.put]; exact rfl
            refine Calm.take (i := 5) (v := ?_) (a' := ?_) (l' := #[true, false, false, true, true, true, false, false, false, false, false]) (d := some 79) rfl (by kernel_rfl) (by kernel_rfl) (by kernel_rfl) (by kernel_rfl) (fun _ _ _ h => h) HF.out rfl ?_ rfl rfl ?_ ?_
            rotate_left
            · intro w' hF; clear hF; go_simp; try rfl
            rotate_left
            · simp only [Act.put]; exact rfl
            refine Calm.take (i := 6) (v := ?_) (a' := ?_) (l' := #[true, false, false, true, true, true, true, false, false, false, false]) (d := some 80) rfl (by kernel_rfl) (by kernel_rfl) (by kernel_rfl) (by kernel_rfl) (fun _ _ _ h => h) HF.out rfl ?_ rfl rfl ?_ ?_
            rotate_left
            · intro w' hF; clear hF; go_simp; try rfl
            rotate_left
            · simp only [Act.put]; exact rfl
            refine Calm.take (i := 7) (v := ?_) (a' := ?_) (l' := #[true, false, false, true, true, true, true, true, false, false, false]) (d := some 81) rfl (by kernel_rfl) (by kernel_rfl) (by kernel_rfl) (by kernel_rfl) (fun _ _ _ h => h) HF.out rfl ?_ rfl rfl ?_ ?_
            rotate_left
            · intro w' hF; clear hF; go_simp; try rfl
            rotate_left
            · simp only [Act.put]; exact rfl
            refine Calm.one (i := 1) (l' := #[true, true, false, true, true, true, true, true, false, false, false]) (by kernel_rfl) rfl rfl rfl fun K hK => ?_
            go_simp
            refine (rof_any 10 _ (by decide) (by decide)).mono ?_
            rintro e u1 ⟨v1, rfl, n1, hb⟩
            have HF' := hide (And.intro (HF.out.1.trans ((hb).mono HF.out.1.size)) (And.intro (HF.out.2.1.step (hb)) (HF.out.2.2.step (hb))))
            have T1 := hide (n1)
            refine hK _ _ (fun _ => HF'.out) ?_
            clear hK K HF hb n1
            have HF := hide HF'.out
            clear HF'
            refine Calm.one (i := 2) (l' := #[true, true, true, true, true, true, true, true, false, false, false]) (by kernel_rfl) rfl rfl rfl fun K hK => ?_
            go_simp
            refine (rmul2_any _ _ (nv d (i - 0) : Int) 10 _ HF.out.2.2.int T1.out HLN.out.1 (by decide)).mono ?_
            rintro e u2 ⟨v2, rfl, n2, hb⟩
            clear T1
            have HF' := hide (And.intro (HF.out.1.trans ((hb).mono HF.out.1.size)) (And.intro (HF.out.2.1.step (hb)) (HF.out.2.2.step (hb))))
            have T2 := hide (n2)
            refine hK _ _ (fun _ => HF'.out) ?_
            clear hK K HF hb n2
            have HF := hide HF'.out
            clear HF'
            refine Calm.one (i := 8) (l' := #[true, true, true, true, true, true, true, true, true, false, false]) (by kernel_rfl) rfl rfl rfl fun K hK => ?_
            go_simp
            rw [dig_wrap64 x h9]
            refine (rof_any (x : Int) _ (by omega) (by omega)).mono ?_
            rintro e u3 ⟨v3, rfl, n3, hb⟩
            replace T2 := hide (T2.out.below (hb))
            have HF' := hide (And.intro (HF.out.1.trans ((hb).mono HF.out.1.size)) (And.intro (HF.out.2.1.step (hb)) (HF.out.2.2.step (hb))))
            have T3 := hide (n3)
            refine hK _ _ (fun _ => HF'.out) ?_
            clear hK K HF hb n3
            have HF := hide HF'.out
            clear HF'
            refine Calm.one (i := 9) (l' := #[true, true, true, true, true, true, true, true, true, true, false]) (by kernel_rfl) rfl rfl rfl fun K hK => ?_
            go_simp
            refine (radd2_any _ _ ((nv d (i - 0) : Int) * 10) (x : Int) _ T2.out T3.out HLN.out.2 (dig_len x h9)).mono ?_
            rintro e u4 ⟨v4, rfl, n4, hb⟩
            obtain ⟨b4, k4, a4, c4, rfl, m4, e4, z4⟩ := n4
            have n4 : RInt u4 (.agg #[.bool b4, .slice a4 (D.lim k4).length c4]) (((nv d (i - 0) : Int) * 10) + (x : Int)) := ⟨b4, k4, a4, c4, rfl, m4, e4, z4⟩
            clear T2
            clear T3
            have HF' := hide (And.intro (HF.out.1.trans ((hb).mono HF.out.1.size)) (And.intro (HF.out.2.1.step (hb)) (HF.out.2.2.step (hb))))
            have T4 := hide (n4)
            refine hK _ _ (fun _ => HF'.out) ?_
            clear hK K HF hb n4 m4 e4 z4
            have HF := hide HF'.out
            clear HF'
            refine Calm.one (i := 10) (l' := #[true, true, true, true, true, true, true, true, true, true, true]) (by kernel_rfl) rfl rfl rfl fun K hK => ?_
            have hc0 := HF.out.2.2.box.cell0
            have hc1 := HF.out.2.2.box.cell1
            have hf0 := HF.out.2.2.box.free 0
            have hf1 := HF.out.2.2.box.free 1
            go_simp
            refine hK _ _ (fun h => absurd h (by decide)) ?_
            clear hK K
            refine Calm.done (by kernel_rfl) ?_
            go_wp2
            go_roundw
            case rel => exact ⟨i + 1, by omega, by omega, by go_num, by rw [show i + 1 - 0 = i - 0 + 1 by omega]; exact HG.out.succ HF0.out, below_put HF.out.1 (Nat.le_succ _) _ _, HF.out.2.1.other (by omega) _ _, b4, a4, _, c4, ⟨HF.out.2.2.box.put _ _, by rw [HX.out]; have := T4.out.keep (keeps2 HF.out.2.2.box (by simp) (by simp) (.bool b4) (.slice a4 (D.lim k4).length c4)); simpa using this⟩⟩
            case measure => simp [intOf]; omega
        · have e : i = s.size := by omega
          subst e
          clear hi1 hi2 hlt
          have hv1 := HV.out.box.cell1
          have hv0 := HV.out.box.cell0
          obtain ⟨b4, k4, a4, c4, e3, m4, e4, z4⟩ := HV.out.int
          simp only [Value.agg.injEq, Array.mk.injEq, List.cons.injEq, Value.bool.injEq, Value.slice.injEq, and_true] at e3
          obtain ⟨rfl, rfl, rfl, rfl⟩ := e3
          have HK : Hid (k4 = nv d d.size) := hide (by have h1 := congrArg Int.natAbs e4; rw [sg_abs, Int.natAbs_natCast, show s.size - 0 = d.size by have := HDS.out; omega] at h1; exact h1.symm)
          have HM := hide m4
          clear m4 e4 z4
          go_wp2_with fail
          refine (rnorm2_any false _ (D.lim k4) _ HM.out (D.ok_lim k4)).mono ?_
          rintro e w2 ⟨v2, rfl, hr2, hb2⟩
          rw [D.val_lim, HK.out] at hr2
          obtain ⟨b5, k5, a5, c5, rfl, m5, e5, z5⟩ := hr2
          replace HR := hide (HR.out.step hb2)
          replace HB := hide (HB.out.trans (hb2.mono HB.out.size))
          have hc0 := HR.out.cell0
          have hc1 := HR.out.cell1
          have hf0 := HR.out.free 0
          have hf1 := HR.out.free 1
          clear hb2 hv0 hv1
          go_wp2
          refine ret_rat1 rfl w.heap.size _ _ rfl (HR.out.put _ _) rfl ?_
          exact ⟨_, _, -1, rfl, ⟨b5, k5, a5, c5, rfl, keeps2 HR.out (by simp) (by simp) _ _ _ _ m5, e5, z5⟩, .inr ⟨HRZ.out (show Good d d.size by have := HG.out; rwa [show s.size - 0 = d.size by have := HDS.out; omega] at this), rfl⟩, below_put HB.out (Nat.le_refl _) _ _⟩
  | true =>
    obtain ⟨hz0, hm0⟩ := hp_yes hc
    have hm : bt s 0 = 45 := hm0
    clear hm0
    obtain ⟨d, hd⟩ : ∃ d, d = rest1 s := ⟨_, rfl⟩
    have HDS : Hid (s.size = d.size + 1) := hide (by rw [hd, rest1_size]; omega)
    have HBT : Hid (∀ k, bt d k = bt s (k + 1)) := hide (fun k => by rw [hd, bt_rest])
    have HB48 : Hid (bt s 1 = 48 → 1 < s.size → IRd s 0 6 1) := hide (fun h1 h2 => .inr (.inl ⟨hs, hc, by unfold hp; exact decide_eq_true ⟨by rw [rest1_size]; omega, by rw [bt_rest]; exact h1⟩, rfl, rfl, rfl⟩))
    have HRD : Hid (∀ xs a b, Rd d xs a b → a ≠ 0 → ∀ i, i = b + 1 → bt d 0 ≠ 48 → IRd s 0 a i) := hide (fun xs a b h ha i hi h48 => .inr (.inr ⟨hs, fun h => h48 (by rw [hd]; exact (hp_yes h.2).2), xs, a, b, by rw [cutP_yes hc, ← hd]; exact h, .inl ⟨ha, rfl, rfl, by rw [cutP_yes hc, rest1_size]; omega⟩⟩))
    have HRZ0 : Hid (0 < d.size → bt d 0 ≠ 48 → Good d d.size → IRd s (sg true (nv d d.size)) 0 0) := hide (fun h0 h48 hg => .inr (.inr ⟨hs, fun h => h48 (by rw [hd]; exact (hp_yes h.2).2), _, 0, 0, by rw [cutP_yes hc, ← hd]; exact .inr (.inr (.inr ⟨by rw [hd, rest1_size]; omega, h0, hg, rfl, rfl, rfl⟩)), .inr ⟨rfl, by rw [hc, val_lim], rfl, rfl⟩⟩))
    have HC := hide hc
    have hb0 := bt_get s 0 hz0
    rw [hm] at hb0
    clear hc hd
    by_cases h1 : s.size = 1
    · have hI : ((1 : Int) ≤ (s.size : Int)) := by omega
      have hI2 : ((s.size : Int) ≤ 1) := by omega
      go_wp2
      refine ret_rat1 rfl w.heap.size _ _ rfl (Box2.new _ _ _ _) rfl ?_
      have hd0 : d.size = 0 := by have := HDS.out; omega
      exact ⟨_, 0, 1, rfl, rzero _, .inl ⟨6, 1, HRD.out [] 6 0 (.inr (.inl ⟨hd0, rfl, rfl, rfl⟩)) (by decide) 1 rfl (by unfold bt; rw [dif_neg (by omega)]; decide), by decide, rfl, rfl⟩, below_alloc _ _⟩
    · have hz1 : 1 < s.size := by omega
      have hb1 := bt_get s 1 hz1
      by_cases c1 : bt s 1 < 48
      · go_wp2
        refine ret_rat1 rfl w.heap.size _ _ rfl (Box2.new _ _ _ _) rfl ?_
        exact ⟨_, 0, 1, rfl, rzero _, .inl ⟨6, 1, HRD.out [] 6 0 (.inr (.inr (.inl ⟨by have := HDS.out; omega, 0, by have := HDS.out; omega, Good.zero _, fun f => by have := f.lo; rw [HBT.out, Nat.zero_add] at this; omega, rfl, rfl, rfl⟩))) (by decide) 1 rfl (by rw [HBT.out, Nat.zero_add]; omega), by decide, rfl, rfl⟩, below_alloc _ _⟩
      by_cases c2 : 57 < bt s 1
      · go_wp2
        refine ret_rat1 rfl w.heap.size _ _ rfl (Box2.new _ _ _ _) rfl ?_
        exact ⟨_, 0, 1, rfl, rzero _, .inl ⟨6, 1, HRD.out [] 6 0 (.inr (.inr (.inl ⟨by have := HDS.out; omega, 0, by have := HDS.out; omega, Good.zero _, fun f => by have := f.hi; rw [HBT.out, Nat.zero_add] at this; omega, rfl, rfl, rfl⟩))) (by decide) 1 rfl (by rw [HBT.out, Nat.zero_add]; omega), by decide, rfl, rfl⟩, below_alloc _ _⟩
      by_cases c3 : bt s 1 = 48
      · rw [c3] at hb1
        go_wp2
        refine ret_rat1 rfl w.heap.size _ _ rfl (Box2.new _ _ _ _) rfl ?_
        exact ⟨_, 0, 1, rfl, rzero _, .inl ⟨6, 1, HB48.out c3 hz1, by decide, rfl, rfl⟩, below_alloc _ _⟩
      have H48 : Hid (bt d 0 ≠ 48) := hide (by rw [HBT.out, Nat.zero_add]; exact c3)
      have hne : (((bt s 1 : Nat) : Int) == 48) = false := by rw [beq_eq_false_iff_ne]; omega
      have HRZ := hide (HRZ0.out (by have := HDS.out; omega) H48.out)
      replace HRD := hide (fun xs a b h ha i hi => HRD.out xs a b h ha i hi H48.out)
      clear HRZ0 h1
      go_wp2
      have HB := hide HE.out.2.2
      have HR := hide HE.out.1
      have HO : Hid (RVar _ (w.heap.size + 1) false none 0 0 (nv d (1 - 1) : Int)) := hide ⟨HE.out.2.1, rzero _⟩
      clear HE hne c1 c2 c3 hb0 hb1
      go_loopw [6] (fun iv wr => ∃ i : Nat, 1 ≤ i ∧ i ≤ s.size ∧ iv = .int .i64 i ∧ Good d (i - 1) ∧ Below w.heap.size w wr ∧ Box2 wr w.heap.size 57 (.bool false) (.slice none 0 0) ∧ ∃ sb m n c, RVar wr (w.heap.size + 1) sb m n c (nv d (i - 1) : Int)) (fun iv _ => s.size - (intOf iv).toNat)
      case atStart => exact ⟨1, Nat.le_refl _, by omega, rfl, Good.zero _, HB.out, HR.out, _, _, _, _, HO.out⟩
      case round =>
        clear HB HR HO
        obtain ⟨i, hi1, hi2, rfl, hg, hB, hR, sb, m, n, c, hV⟩ := hrel
        have HG := hide hg
        have HB := hide hB
        have HR := hide hR
        have HV := hide hV
        clear hg hB hR hV
        by_cases hlt : i < s.size
        · have hb := bt_get s i hlt
          have hbt := bt_get s 1 (by omega)
          have HEI : Hid (bt s i = bt d (i - 1)) := hide (by rw [HBT.out (i - 1)]; congr 1; omega)
          have HE0 : Hid (bt s 1 = bt d 0) := hide (by rw [HBT.out 0])
          by_cases c1 : bt s i < 48
          · skip
            have hr0 := HR.out.cell0
            have hr1 := HR.out.cell1
            have hf0 := HR.out.free 0
            have hf1 := HR.out.free 1
            go_wp2
            refine ret_rat1 rfl w.heap.size _ _ rfl (HR.out.put _ _) rfl ?_
            exact ⟨_, 0, i, rfl, rzero _, .inl ⟨6, i, HRD.out _ 6 (i - 1) (.inr (.inr (.inl ⟨by have := HDS.out; omega, (i - 1), by have := HDS.out; omega, HG.out, fun f => by have := f.lo; have := HEI.out; omega, rfl, rfl, rfl⟩))) (by decide) i (by omega), by decide, rfl, rfl⟩, below_put HB.out (Nat.le_refl _) _ _⟩
          by_cases c2 : 57 < bt s i
          · skip
            have hr0 := HR.out.cell0
            have hr1 := HR.out.cell1
            have hf0 := HR.out.free 0
            have hf1 := HR.out.free 1
            go_wp2
            refine ret_rat1 rfl w.heap.size _ _ rfl (HR.out.put _ _) rfl ?_
            exact ⟨_, 0, i, rfl, rzero _, .inl ⟨6, i, HRD.out _ 6 (i - 1) (.inr (.inr (.inl ⟨by have := HDS.out; omega, (i - 1), by have := HDS.out; omega, HG.out, fun f => by have := f.hi; have := HEI.out; omega, rfl, rfl, rfl⟩))) (by decide) i (by omega), by decide, rfl, rfl⟩, below_put HB.out (Nat.le_refl _) _ _⟩
          by_cases c3 : i = 2 ∧ bt s 1 = 48
          · obtain ⟨c3, c4⟩ := c3
            subst c3
            rw [c4] at hbt
            have hr0 := HR.out.cell0
            have hr1 := HR.out.cell1
            have hf0 := HR.out.free 0
            have hf1 := HR.out.free 1
            go_wp2
            refine ret_rat1 rfl w.heap.size _ _ rfl (HR.out.put _ _) rfl ?_
            exact ⟨_, 0, 2, rfl, rzero _, .inl ⟨6, 2, HRD.out _ 6 (2 - 1) (.inr (.inr (.inl ⟨by have := HDS.out; omega, (2 - 1), by have := HDS.out; omega, HG.out, fun f => f.lead (by omega) (by have := HE0.out; omega), rfl, rfl, rfl⟩))) (by decide) 2 (by omega), by decide, rfl, rfl⟩, below_put HB.out (Nat.le_refl _) _ _⟩
          have HF0 := hide (show Fine d (i - 1) from ⟨by have := HEI.out; omega, by have := HEI.out; omega, fun h1 h2 => by
            have f1 := HG.out 0 (by omega)
            by_cases h3 : i = 2
            · exact c3 ⟨h3, by have := HE0.out; omega⟩
            · exact (HG.out 1 (by omega)).lead (Nat.le_refl _) h2⟩)
          obtain ⟨x, hx⟩ : ∃ x, bt s i = 48 + x := ⟨bt s i - 48, by omega⟩
          have h9 : x ≤ 9 := by omega
          have HX : Hid (nv d (i + 1 - 1) = nv d (i - 1) * 10 + x) := hide (by rw [show i + 1 - 1 = (i - 1) + 1 by omega, nv, ← HEI.out, hx]; omega)
          have HLN := hide (nv_dlen d (i - 1) HG.out (by omega))
          rw [hx] at hb
          by_cases h3 : i = 2
          · subst h3
            have h4' : (((bt s 1 : Nat) : Int) == 48) = false := by rw [beq_eq_false_iff_ne]; intro h4; exact c3 ⟨rfl, by omega⟩
            clear c3 hx
            go_wp2_with fail
            refine wp_calm (fun w' => Below w.heap.size w w' ∧ Box2 w' w.heap.size 57 (.bool false) (.slice none 0 0) ∧ RVar w' (w.heap.size + 1) sb m n c (nv d (2 - 1) : Int)) (fun j => j != 10) 11 #[false, false, false, false, false, false, false, false, false, false, false] (by kernel_rfl) rfl rfl ?_
            have HF := hide (And.intro (HB.out.drew) (And.intro (HR.out.drew) (HV.out.drew)))
            generalize wr.drew = wrd at *
            refine Calm.take (i := 0) (v := ?_) (a' := ?_) (l' := #[true, false, false, false, false, false, false, false, false, false, false]) (d := some 74) rfl (by kernel_rfl) (by kernel_rfl) (by kernel_rfl) (by kernel_rfl) (fun _ _ _ h => h) HF.out rfl ?_ rfl rfl ?_ ?_
            rotate_left
            · intro w' hF; have f10 := hF.2.1.cell0; have f11 := hF.2.1.cell1; have f20 := hF.2.2.box.cell0; have f21 := hF.2.2.box.cell1; clear hF; go_simp; try rfl
            rotate_left
            · simp only [Act.put]; exact rfl
            refine Calm.take (i := 3) (v := ?_) (a' := ?_) (l' := #[true, false, false, true, false, false, false, false, false, false, false]) (d := some 77) rfl (by kernel_rfl) (by kernel_rfl) (by kernel_rfl) (by kernel_rfl) (fun _ _ _ h => h) HF.out rfl ?_ rfl rfl ?_ ?_
            rotate_left
            · intro w' hF; clear hF; go_simp; try rfl
            rotate_left
            · simp only [Act.put]; exact rfl
            refine Calm.take (i := 4) (v := ?_) (a' := ?_) (l' := #[true, false, false, true, true, false, false, false, false, false, false]) (d := some 78) rfl (by kernel_rfl) (by kernel_rfl) (by kernel_rfl) (by kernel_rfl) (fun _ _ _ h => h) HF.out rfl ?_ rfl rfl ?_ ?_
            rotate_left
            · intro w' hF; clear hF; go_simp; try rfl
            rotate_left
            · simp only [Act.put]; exact rfl
            refine Calm.take (i := 5) (v := ?_) (a' := ?_) (l' := #[true, false, false, true, true, true, false, false, false, false, false]) (d := some 79) rfl (by kernel_rfl) (by kernel_rfl) (by kernel_rfl) (by kernel_rfl) (fun _ _ _ h => h) HF.out rfl ?_ rfl rfl ?_ ?_
            rotate_left
            · intro w' hF; clear hF; go_simp; try rfl
            rotate_left
            · simp only [Act.put]; exact rfl
            refine Calm.take (i := 6) (v := ?_) (a' := ?_) (l' := #[true, false, false, true, true, true, true, false, false, false, false]) (d := some 80) rfl (by kernel_rfl) (by kernel_rfl) (by kernel_rfl) (by kernel_rfl) (fun _ _ _ h => h) HF.out rfl ?_ rfl rfl ?_ ?_
            rotate_left
            · intro w' hF; clear hF; go_simp; try rfl
            rotate_left
            · simp only [Act.put]; exact rfl
            refine Calm.take (i := 7) (v := ?_) (a' := ?_) (l' := #[true, false, false, true, true, true, true, true, false, false, false]) (d := some 81) rfl (by kernel_rfl) (by kernel_rfl) (by kernel_rfl) (by kernel_rfl) (fun _ _ _ h => h) HF.out rfl ?_ rfl rfl ?_ ?_
            rotate_left
            · intro w' hF; clear hF; go_simp; try rfl
            rotate_left
            · simp only [Act.put]; exact rfl
            refine Calm.one (i := 1) (l' := #[true, true, false, true, true, true, true, true, false, false, false]) (by kernel_rfl) rfl rfl rfl fun K hK => ?_
            go_simp
            refine (rof_any 10 _ (by decide) (by decide)).mono ?_
            rintro e u1 ⟨v1, rfl, n1, hb⟩
            have HF' := hide (And.intro (HF.out.1.trans ((hb).mono HF.out.1.size)) (And.intro (HF.out.2.1.step (hb)) (HF.out.2.2.step (hb))))
            have T1 := hide (n1)
            refine hK _ _ (fun _ => HF'.out) ?_
            clear hK K HF hb n1
            have HF := hide HF'.out
            clear HF'
            refine Calm.one (i := 2) (l' := #[true, true, true, true, true, true, true, true, false, false, false]) (by kernel_rfl) rfl rfl rfl fun K hK => ?_
            go_simp
            refine (rmul2_any _ _ (nv d (2 - 1) : Int) 10 _ HF.out.2.2.int T1.out HLN.out.1 (by decide)).mono ?_
            rintro e u2 ⟨v2, rfl, n2, hb⟩
            clear T1
            have HF' := hide (And.intro (HF.out.1.trans ((hb).mono HF.out.1.size)) (And.intro (HF.out.2.1.step (hb)) (HF.out.2.2.step (hb))))
            have T2 := hide (n2)
            refine hK _ _ (fun _ => HF'.out) ?_
            clear hK K HF hb n2
            have HF := hide HF'.out
            clear HF'
            refine Calm.one (i := 8) (l' := #[true, true, true, true, true, true, true, true, true, false, false]) (by kernel_rfl) rfl rfl rfl fun K hK => ?_
            go_simp
            rw [dig_wrap64 x h9]
            refine (rof_any (x : Int) _ (by omega) (by omega)).mono ?_
            rintro e u3 ⟨v3, rfl, n3, hb⟩
            replace T2 := hide (T2.out.below (hb))
            have HF' := hide (And.intro (HF.out.1.trans ((hb).mono HF.out.1.size)) (And.intro (HF.out.2.1.step (hb)) (HF.out.2.2.step (hb))))
            have T3 := hide (n3)
            refine hK _ _ (fun _ => HF'.out) ?_
            clear hK K HF hb n3
            have HF := hide HF'.out
            clear HF'
            refine Calm.one (i := 9) (l' := #[true, true, true, true, true, true, true, true, true, true, false]) (by kernel_rfl) rfl rfl rfl fun K hK => ?_
            go_simp
            refine (radd2_any _ _ ((nv d (2 - 1) : Int) * 10) (x : Int) _ T2.out T3.out HLN.out.2 (dig_len x h9)).mono ?_
            rintro e u4 ⟨v4, rfl, n4, hb⟩
            obtain ⟨b4, k4, a4, c4, rfl, m4, e4, z4⟩ := n4
            have n4 : RInt u4 (.agg #[.bool b4, .slice a4 (D.lim k4).length c4]) (((nv d (2 - 1) : Int) * 10) + (x : Int)) := ⟨b4, k4, a4, c4, rfl, m4, e4, z4⟩
            clear T2
            clear T3
            have HF' := hide (And.intro (HF.out.1.trans ((hb).mono HF.out.1.size)) (And.intro (HF.out.2.1.step (hb)) (HF.out.2.2.step (hb))))
            have T4 := hide (n4)
            refine hK _ _ (fun _ => HF'.out) ?_
            clear hK K HF hb n4 m4 e4 z4
            have HF := hide HF'.out
            clear HF'
            refine Calm.one (i := 10) (l' := #[true, true, true, true, true, true, true, true, true, true, true]) (by kernel_rfl) rfl rfl rfl fun K hK => ?_
            have hc0 := HF.out.2.2.box.cell0
            have hc1 := HF.out.2.2.box.cell1
            have hf0 := HF.out.2.2.box.free 0
            have hf1 := HF.out.2.2.box.free 1
            go_simp
            refine hK _ _ (fun h => absurd h (by decide)) ?_
            clear hK K
            refine Calm.done (by kernel_rfl) ?_
            go_wp2
            go_roundw
            case rel => exact ⟨2 + 1, by omega, by omega, by go_num, by rw [show 2 + 1 - 1 = 2 - 1 + 1 by omega]; exact HG.out.succ HF0.out, below_put HF.out.1 (Nat.le_succ _) _ _, HF.out.2.1.other (by omega) _ _, b4, a4, _, c4, ⟨HF.out.2.2.box.put _ _, by rw [HX.out]; have := T4.out.keep (keeps2 HF.out.2.2.box (by simp) (by simp) (.bool b4) (.slice a4 (D.lim k4).length c4)); simpa using this⟩⟩
            case measure => simp [intOf]; omega
          · have h3' : ((i : Int) == 2) = false := by rw [beq_eq_false_iff_ne]; omega
            clear c3 hx h3
            go_wp2_with fail
            refine wp_calm (fun w' => Below w.heap.size w w' ∧ Box2 w' w.heap.size 57 (.bool false) (.slice none 0 0) ∧ RVar w' (w.heap.size + 1) sb m n c (nv d (i - 1) : Int)) (fun j => j != 10) 11 #[false, false, false, false, false, false, false, false, false, false, false] (by kernel_rfl) rfl rfl ?_
            have HF := hide (And.intro (HB.out.drew) (And.intro (HR.out.drew) (HV.out.drew)))
            generalize wr.drew = wrd at *
            refine Calm.take (i := 0) (v := ?_) (a' := ?_) (l' := #[true, false, false, false, false, false, false, false, false, false, false]) (d := some 74) rfl (by kernel_rfl) (by kernel_rfl) (by kernel_rfl) (by kernel_rfl) (fun _ _ _ h => h) HF.out rfl ?_ rfl rfl ?_ ?_
            rotate_left
            · intro w' hF; have f10 := hF.2.1.cell0; have f11 := hF.2.1.cell1; have f20 := hF.2.2.box.cell0; have f21 := hF.2.2.box.cell1; clear hF; go_simp; try rfl
            rotate_left
            · simp only [Act.put]; exact rfl
            refine Calm.take (i := 3) (v := ?_) (a' := ?_) (l' := #[true, false, false, true, false, false, false, false, false, false, false]) (d := some 77) rfl (by kernel_rfl) (by kernel_rfl) (by kernel_rfl) (by kernel_rfl) (fun _ _ _ h => h) HF.out rfl ?_ rfl rfl ?_ ?_
            rotate_left
            · intro w' hF; clear hF; go_simp; try rfl
            rotate_left
            · simp only [Act.put]; exact rfl
            refine Calm.take (i := 4) (v := ?_) (a' := ?_) (l' := #[true, false, false, true, true, false, false, false, false, false, false]) (d := some 78) rfl (by kernel_rfl) (by kernel_rfl) (by kernel_rfl) (by kernel_rfl) (fun _ _ _ h => h) HF.out rfl ?_ rfl rfl ?_ ?_
            rotate_left
            · intro w' hF; clear hF; go_simp; try rfl
            rotate_left
            · simp only [Act.put]; exact rfl
            refine Calm.take (i := 5) (v := ?_) (a' := ?_) (l' := #[true, false, false, true, true, true, false, false, false, false, false]) (d := some 79) rfl (by kernel_rfl) (by kernel_rfl) (by kernel_rfl) (by kernel_rfl) (fun _ _ _ h => h) HF.out rfl ?_ rfl rfl ?_ ?_
            rotate_left
            · intro w' hF; clear hF; go_simp; try rfl
            rotate_left
            · simp only [Act.put]; exact rfl
            refine Calm.take (i := 6) (v := ?_) (a' := ?_) (l' := #[true, false, false, true, true, true, true, false, false, false, false]) (d := some 80) rfl (by kernel_rfl) (by kernel_rfl) (by kernel_rfl) (by kernel_rfl) (fun _ _ _ h => h) HF.out rfl ?_ rfl rfl ?_ ?_
            rotate_left
            · intro w' hF; clear hF; go_simp; try rfl
            rotate_left
            · simp only [Act.put]; exact rfl
            refine Calm.take (i := 7) (v := ?_) (a' := ?_) (l' := #[true, false, false, true, true, true, true, true, false, false, false]) (d := some 81) rfl (by kernel_rfl) (by kernel_rfl) (by kernel_rfl) (by kernel_rfl) (fun _ _ _ h => h) HF.out rfl ?_ rfl rfl ?_ ?_
            rotate_left
            · intro w' hF; clear hF; go_simp; try rfl
            rotate_left
            · simp only [Act.put]; exact rfl
            refine Calm.one (i := 1) (l' := #[true, true, false, true, true, true, true, true, false, false, false]) (by kernel_rfl) rfl rfl rfl fun K hK => ?_
            go_simp
            refine (rof_any 10 _ (by decide) (by decide)).mono ?_
            rintro e u1 ⟨v1, rfl, n1, hb⟩
            have HF' := hide (And.intro (HF.out.1.trans ((hb).mono HF.out.1.size)) (And.intro (HF.out.2.1.step (hb)) (HF.out.2.2.step (hb))))
            have T1 := hide (n1)
            refine hK _ _ (fun _ => HF'.out) ?_
            clear hK K HF hb n1
            have HF := hide HF'.out
            clear HF'
            refine Calm.one (i := 2) (l' := #[true, true, true, true, true, true, true, true, false, false, false]) (by kernel_rfl) rfl rfl rfl fun K hK => ?_
            go_simp
            refine (rmul2_any _ _ (nv d (i - 1) : Int) 10 _ HF.out.2.2.int T1.out HLN.out.1 (by decide)).mono ?_
            rintro e u2 ⟨v2, rfl, n2, hb⟩
            clear T1
            have HF' := hide (And.intro (HF.out.1.trans ((hb).mono HF.out.1.size)) (And.intro (HF.out.2.1.step (hb)) (HF.out.2.2.step (hb))))
            have T2 := hide (n2)
            refine hK _ _ (fun _ => HF'.out) ?_
            clear hK K HF hb n2
            have HF := hide HF'.out
            clear HF'
            refine Calm.one (i := 8) (l' := #[true, true, true, true, true, true, true, true, true, false, false]) (by kernel_rfl) rfl rfl rfl fun K hK => ?_
            go_simp
            rw [dig_wrap64 x h9]
            refine (rof_any (x : Int) _ (by omega) (by omega)).mono ?_
            rintro e u3 ⟨v3, rfl, n3, hb⟩
            replace T2 := hide (T2.out.below (hb))
            have HF' := hide (And.intro (HF.out.1.trans ((hb).mono HF.out.1.size)) (And.intro (HF.out.2.1.step (hb)) (HF.out.2.2.step (hb))))
            have T3 := hide (n3)
            refine hK _ _ (fun _ => HF'.out) ?_
            clear hK K HF hb n3
            have HF := hide HF'.out
            clear HF'
            refine Calm.one (i := 9) (l' := #[true, true, true, true, true, true, true, true, true, true, false]) (by kernel_rfl) rfl rfl rfl fun K hK => ?_
            go_simp
            refine (radd2_any _ _ ((nv d (i - 1) : Int) * 10) (x : Int) _ T2.out T3.out HLN.out.2 (dig_len x h9)).mono ?_
            rintro e u4 ⟨v4, rfl, n4, hb⟩
            obtain ⟨b4, k4, a4, c4, rfl, m4, e4, z4⟩ := n4
            have n4 : RInt u4 (.agg #[.bool b4, .slice a4 (D.lim k4).length c4]) (((nv d (i - 1) : Int) * 10) + (x : Int)) := ⟨b4, k4, a4, c4, rfl, m4, e4, z4⟩
            clear T2
            clear T3
            have HF' := hide (And.intro (HF.out.1.trans ((hb).mono HF.out.1.size)) (And.intro (HF.out.2.1.step (hb)) (HF.out.2.2.step (hb))))
            have T4 := hide (n4)
            refine hK _ _ (fun _ => HF'.out) ?_
            clear hK K HF hb n4 m4 e4 z4
            have HF := hide HF'.out
            clear HF'
            refine Calm.one (i := 10) (l' := #[true, true, true, true, true, true, true, true, true, true, true]) (by kernel_rfl) rfl rfl rfl fun K hK => ?_
            have hc0 := HF.out.2.2.box.cell0
            have hc1 := HF.out.2.2.box.cell1
            have hf0 := HF.out.2.2.box.free 0
            have hf1 := HF.out.2.2.box.free 1
            go_simp
            refine hK _ _ (fun h => absurd h (by decide)) ?_
            clear hK K
            refine Calm.done (by kernel_rfl) ?_
            go_wp2
            go_roundw
            case rel => exact ⟨i + 1, by omega, by omega, by go_num, by rw [show i + 1 - 1 = i - 1 + 1 by omega]; exact HG.out.succ HF0.out, below_put HF.out.1 (Nat.le_succ _) _ _, HF.out.2.1.other (by omega) _ _, b4, a4, _, c4, ⟨HF.out.2.2.box.put _ _, by rw [HX.out]; have := T4.out.keep (keeps2 HF.out.2.2.box (by simp) (by simp) (.bool b4) (.slice a4 (D.lim k4).length c4)); simpa using this⟩⟩
            case measure => simp [intOf]; omega
        · have e : i = s.size := by omega
          subst e
          clear hi1 hi2 hlt
          have hv1 := HV.out.box.cell1
          have hv0 := HV.out.box.cell0
          obtain ⟨b4, k4, a4, c4, e3, m4, e4, z4⟩ := HV.out.int
          simp only [Value.agg.injEq, Array.mk.injEq, List.cons.injEq, Value.bool.injEq, Value.slice.injEq, and_true] at e3
          obtain ⟨rfl, rfl, rfl, rfl⟩ := e3
          have HK : Hid (k4 = nv d d.size) := hide (by have h1 := congrArg Int.natAbs e4; rw [sg_abs, Int.natAbs_natCast, show s.size - 1 = d.size by have := HDS.out; omega] at h1; exact h1.symm)
          have HM := hide m4
          clear m4 e4 z4
          go_wp2_with fail
          refine (rnorm2_any true _ (D.lim k4) _ HM.out (D.ok_lim k4)).mono ?_
          rintro e w2 ⟨v2, rfl, hr2, hb2⟩
          rw [D.val_lim, HK.out] at hr2
          obtain ⟨b5, k5, a5, c5, rfl, m5, e5, z5⟩ := hr2
          replace HR := hide (HR.out.step hb2)
          replace HB := hide (HB.out.trans (hb2.mono HB.out.size))
          have hc0 := HR.out.cell0
          have hc1 := HR.out.cell1
          have hf0 := HR.out.free 0
          have hf1 := HR.out.free 1
          clear hb2 hv0 hv1
          go_wp2
          refine ret_rat1 rfl w.heap.size _ _ rfl (HR.out.put _ _) rfl ?_
          exact ⟨_, _, -1, rfl, ⟨b5, k5, a5, c5, rfl, keeps2 HR.out (by simp) (by simp) _ _ _ _ m5, e5, z5⟩, .inr ⟨HRZ.out (show Good d d.size by have := HG.out; rwa [show s.size - 1 = d.size by have := HDS.out; omega] at this), rfl⟩, below_put HB.out (Nat.le_refl _) _ _⟩
end Go.Proofs.Ytgkibmigbjjnnaa

namespace Go.Proofs.Ytgkibmigbjjnnaa
open Go.RowKit

theorem SzI.d6 {k : Nat} {z : Int} (h : SzI k z) (hk : 2 * k ≤ 1000000) : (D.lim z.natAbs).length ≤ 1000000 := by
  have h1 : (D.lim z.natAbs).length ≤ 2 * k := by
    refine D.lim_length_le ?_
    rw [Nat.pow_mul]
    exact h
  omega
theorem Try.infoI3 : (Try.prog.info? 25).map (·.size) = some 2 := by kernel_rfl

set_option maxRecDepth 100000 in
set_option maxHeartbeats 4000000 in
theorem is3_yes (v1 v2 : Value) (x : Rat) (w : World) (h1 : RatAt w v1 x) (h2 : RQ w v2 x) (hx : SzR 400000 x) :
    Calls Try.prog 28 #[v1, v2] w fun e w' => e = .returned (.bool true) ∧ Below w.heap.size w w' := by
  have HX := hide hx
  clear hx
  obtain ⟨s1, m1, n1, c1, t1, o1, p1, d1, rfl, i1⟩ := h1.cells
  have I1 := hide i1
  clear h1 i1
  obtain ⟨s2, m2, n2, c2, t2, o2, p2, d2, rfl, i2⟩ := h2.cells
  have I2 := hide i2
  clear h2 i2
  have P0 := Box4.new w (.bool s1) (.slice m1 n1 c1) (.bool t1) (.slice o1 p1 d1)
  replace P0 := P0.step (below_alloc _ (.cells #[.bool s2, .slice m2 n2 c2, .bool t2, .slice o2 p2 d2] 59))
  replace P0 := hide P0
  have P1 := BoxQ.new (w.alloc (.cells #[.bool s1, .slice m1 n1 c1, .bool t1, .slice o1 p1 d1] 27)) (.bool s2) (.slice m2 n2 c2) (.bool t2) (.slice o2 p2 d2)
  simp only [World.size_alloc] at P1
  replace P1 := hide P1
  have HB := below_alloc w (.cells #[.bool s1, .slice m1 n1 c1, .bool t1, .slice o1 p1 d1] 27)
  replace HB := HB.trans ((below_alloc _ (.cells #[.bool s2, .slice m2 n2 c2, .bool t2, .slice o2 p2 d2] 59)).mono (by simp only [World.size_alloc]; omega))
  replace I1 := hide (I1.out.below HB)
  replace I2 := hide (I2.out.below HB)
  replace HB := hide HB
  go_enter Try.func28, Try.ntmps28
  go_wp2_with fail
  generalize ((w.alloc (.cells #[.bool s1, .slice m1 n1 c1, .bool t1, .slice o1 p1 d1] 27)).alloc (.cells #[.bool s2, .slice m2 n2 c2, .bool t2, .slice o2 p2 d2] 59)) = w0 at *
  have LTS : Hid True := hide trivial
  refine wp_calm (fun w' => Below w.heap.size w w' ∧ Box4 w' w.heap.size (.bool s1) (.slice m1 n1 c1) (.bool t1) (.slice o1 p1 d1) ∧ BoxQ w' (w.heap.size + 1) (.bool s2) (.slice m2 n2 c2) (.bool t2) (.slice o2 p2 d2) ∧ RatAt w' (.agg #[.bool s1, .slice m1 n1 c1, .bool t1, .slice o1 p1 d1]) x ∧ RQ w' (.agg #[.bool s2, .slice m2 n2 c2, .bool t2, .slice o2 p2 d2]) x) (fun _ => true) 17 #[false, false, false, false, false, false, false, false, false, false, false, false, false, false, false, false, false] (by kernel_rfl) rfl rfl ?_
  have HF := hide (And.intro (HB.out.drew) (And.intro (P0.out.drew) (And.intro (P1.out.drew) (And.intro (I1.out.drew) (I2.out.drew)))))
  generalize w0.drew = w0d at *
  refine Calm.take (i := 0) (v := ?_) (a' := ?_) (l' := #[true, false, false, false, false, false, false, false, false, false, false, false, false, false, false, false, false]) (d := some 5) rfl (by kernel_rfl) (by kernel_rfl) (by kernel_rfl) (by kernel_rfl) (fun _ _ _ h => h) HF.out rfl ?_ rfl rfl ?_ ?_
  rotate_left
  · intro w' hF; have f10 := hF.2.1.cell0; have f11 := hF.2.1.cell1; have f12 := hF.2.1.cell2; have f13 := hF.2.1.cell3; have f20 := hF.2.2.1.cell0; have f21 := hF.2.2.1.cell1; have f22 := hF.2.2.1.cell2; have f23 := hF.2.2.1.cell3; clear hF; go_simp; try rfl
  rotate_left
  · simp only [Act.put]; exact rfl
  refine Calm.take (i := 3) (v := ?_) (a' := ?_) (l' := #[true, false, false, true, false, false, false, false, false, false, false, false, false, false, false, false, false]) (d := some 8) rfl (by kernel_rfl) (by kernel_rfl) (by kernel_rfl) (by kernel_rfl) (fun _ _ _ h => h) HF.out rfl ?_ rfl rfl ?_ ?_
  rotate_left
  · intro w' hF; clear hF; go_simp; try rfl
  rotate_left
  · simp only [Act.put]; exact rfl
  refine Calm.take (i := 4) (v := ?_) (a' := ?_) (l' := #[true, false, false, true, true, false, false, false, false, false, false, false, false, false, false, false, false]) (d := some 9) rfl (by kernel_rfl) (by kernel_rfl) (by kernel_rfl) (by kernel_rfl) (fun _ _ _ h => h) HF.out rfl ?_ rfl rfl ?_ ?_
  rotate_left
  · intro w' hF; have f10 := hF.2.1.cell0; have f11 := hF.2.1.cell1; have f12 := hF.2.1.cell2; have f13 := hF.2.1.cell3; have f20 := hF.2.2.1.cell0; have f21 := hF.2.2.1.cell1; have f22 := hF.2.2.1.cell2; have f23 := hF.2.2.1.cell3; clear hF; go_simp; try rfl
  rotate_left
  · simp only [Act.put]; exact rfl
  refine Calm.one (i := 1) (l' := #[true, true, false, true, true, false, false, false, false, false, false, false, false, false, false, false, false]) (by kernel_rfl) rfl rfl rfl fun K hK => ?_
  go_simp
  refine (num_any _ x _ HF.out.2.2.2.1).mono ?_
  rintro e u1 ⟨v, rfl, n, hb⟩
  have HF' := hide (And.intro (HF.out.1.trans ((hb).mono HF.out.1.size)) (And.intro (HF.out.2.1.step (hb)) (And.intro (HF.out.2.2.1.step (hb)) (And.intro (HF.out.2.2.2.1.below (hb)) (HF.out.2.2.2.2.below (hb))))))
  have T1 := hide (n)
  refine hK _ _ (fun _ => HF'.out) ?_
  clear hK K HF hb n
  have HF := hide HF'.out
  clear HF'
  refine Calm.one (i := 2) (l' := #[true, true, true, true, true, false, false, false, false, false, false, false, false, false, false, false, false]) (by kernel_rfl) rfl rfl rfl fun K hK => ?_
  go_simp
  refine (itext_any _ x.num _ T1.out (SzI.len HX.out.num (by decide))).mono ?_
  rintro e u2 ⟨rfl, hb⟩
  clear T1
  have HF' := hide (And.intro (HF.out.1.trans ((hb).mono HF.out.1.size)) (And.intro (HF.out.2.1.step (hb)) (And.intro (HF.out.2.2.1.step (hb)) (And.intro (HF.out.2.2.2.1.below (hb)) (HF.out.2.2.2.2.below (hb))))))
  refine hK _ _ (fun _ => HF'.out) ?_
  clear hK K HF hb
  have HF := hide HF'.out
  clear HF'
  refine Calm.one (i := 5) (l' := #[true, true, true, true, true, true, false, false, false, false, false, false, false, false, false, false, false]) (by kernel_rfl) rfl rfl rfl fun K hK => ?_
  go_simp
  refine (rtext2_any _ x.num _ HF.out.2.2.2.2.num (SzI.d6 HX.out.num (by decide))).mono ?_
  rintro e u3 ⟨rfl, hb⟩
  have HF' := hide (And.intro (HF.out.1.trans ((hb).mono HF.out.1.size)) (And.intro (HF.out.2.1.step (hb)) (And.intro (HF.out.2.2.1.step (hb)) (And.intro (HF.out.2.2.2.1.below (hb)) (HF.out.2.2.2.2.below (hb))))))
  refine hK _ _ (fun _ => HF'.out) ?_
  clear hK K HF hb
  have HF := hide HF'.out
  clear HF'
  refine Calm.take (i := 6) (v := ?_) (a' := ?_) (l' := #[true, true, true, true, true, true, true, false, false, false, false, false, false, false, false, false, false]) (d := some 11) rfl (by kernel_rfl) (by kernel_rfl) (by kernel_rfl) (by kernel_rfl) (fun _ _ _ h => h) HF.out rfl ?_ rfl rfl ?_ ?_
  rotate_left
  · intro w' hF; clear hF; go_simp; try rfl
  rotate_left
  · simp only [Act.put]; exact rfl
  refine Calm.take (i := 7) (v := ?_) (a' := ?_) (l' := #[true, true, true, true, true, true, true, true, false, false, false, false, false, false, false, false, false]) (d := some 12) rfl (by kernel_rfl) (by kernel_rfl) (by kernel_rfl) (by kernel_rfl) (fun _ _ _ h => h) HF.out rfl ?_ rfl rfl ?_ ?_
  rotate_left
  · intro w' hF; clear hF; go_simp; try rfl
  rotate_left
  · simp only [Act.put]; exact rfl
  refine Calm.take (i := 8) (v := ?_) (a' := ?_) (l' := #[true, true, true, true, true, true, true, true, true, false, false, false, false, false, false, false, false]) (d := some 13) rfl (by kernel_rfl) (by kernel_rfl) (by kernel_rfl) (by kernel_rfl) (fun _ _ _ h => h) HF.out (by kernel_rfl) ?_ rfl rfl ?_ ?_
  rotate_left
  · intro w' hF; have f10 := hF.2.1.cell0; have f11 := hF.2.1.cell1; have f12 := hF.2.1.cell2; have f13 := hF.2.1.cell3; have f20 := hF.2.2.1.cell0; have f21 := hF.2.2.1.cell1; have f22 := hF.2.2.1.cell2; have f23 := hF.2.2.1.cell3; clear hF; go_simp; try rfl
  rotate_left
  · simp only [Act.put]; exact rfl
  refine Calm.take (i := 11) (v := ?_) (a' := ?_) (l' := #[true, true, true, true, true, true, true, true, true, false, false, true, false, false, false, false, false]) (d := some 16) rfl (by kernel_rfl) (by kernel_rfl) (by kernel_rfl) (by kernel_rfl) (fun _ _ _ h => h) HF.out (by kernel_rfl) ?_ rfl rfl ?_ ?_
  rotate_left
  · intro w' hF; clear hF; go_simp; try rfl
  rotate_left
  · simp only [Act.put]; exact rfl
  refine Calm.take (i := 12) (v := ?_) (a' := ?_) (l' := #[true, true, true, true, true, true, true, true, true, false, false, true, true, false, false, false, false]) (d := some 17) rfl (by kernel_rfl) (by kernel_rfl) (by kernel_rfl) (by kernel_rfl) (fun _ _ _ h => h) HF.out (by kernel_rfl) ?_ rfl rfl ?_ ?_
  rotate_left
  · intro w' hF; have f10 := hF.2.1.cell0; have f11 := hF.2.1.cell1; have f12 := hF.2.1.cell2; have f13 := hF.2.1.cell3; have f20 := hF.2.2.1.cell0; have f21 := hF.2.2.1.cell1; have f22 := hF.2.2.1.cell2; have f23 := hF.2.2.1.cell3; clear hF; go_simp; try rfl
  rotate_left
  · simp only [Act.put]; exact rfl
  refine Calm.one (i := 9) (l' := #[true, true, true, true, true, true, true, true, true, true, false, true, true, false, false, false, false]) (by kernel_rfl) rfl (by kernel_rfl) rfl fun K hK => ?_
  go_simp
  refine (den_any _ x _ HF.out.2.2.2.1).mono ?_
  rintro e u4 ⟨v, rfl, n, hb⟩
  have HF' := hide (And.intro (HF.out.1.trans ((hb).mono HF.out.1.size)) (And.intro (HF.out.2.1.step (hb)) (And.intro (HF.out.2.2.1.step (hb)) (And.intro (HF.out.2.2.2.1.below (hb)) (HF.out.2.2.2.2.below (hb))))))
  have T2 := hide (n)
  refine hK _ _ (fun _ => HF'.out) ?_
  clear hK K HF hb n
  have HF := hide HF'.out
  clear HF'
  refine Calm.one (i := 10) (l' := #[true, true, true, true, true, true, true, true, true, true, true, true, true, false, false, false, false]) (by kernel_rfl) rfl (by kernel_rfl) rfl fun K hK => ?_
  go_simp
  refine (itext_any _ (x.den : Int) _ T2.out (SzI.len HX.out.den (by decide))).mono ?_
  rintro e u5 ⟨rfl, hb⟩
  clear T2
  have HF' := hide (And.intro (HF.out.1.trans ((hb).mono HF.out.1.size)) (And.intro (HF.out.2.1.step (hb)) (And.intro (HF.out.2.2.1.step (hb)) (And.intro (HF.out.2.2.2.1.below (hb)) (HF.out.2.2.2.2.below (hb))))))
  refine hK _ _ (fun _ => HF'.out) ?_
  clear hK K HF hb
  have HF := hide HF'.out
  clear HF'
  refine Calm.one (i := 13) (l' := #[true, true, true, true, true, true, true, true, true, true, true, true, true, true, false, false, false]) (by kernel_rfl) rfl (by kernel_rfl) rfl fun K hK => ?_
  go_simp
  refine (rtext2_any _ (x.den : Int) _ HF.out.2.2.2.2.den (SzI.d6 HX.out.den (by decide))).mono ?_
  rintro e u6 ⟨rfl, hb⟩
  have HF' := hide (And.intro (HF.out.1.trans ((hb).mono HF.out.1.size)) (And.intro (HF.out.2.1.step (hb)) (And.intro (HF.out.2.2.1.step (hb)) (And.intro (HF.out.2.2.2.1.below (hb)) (HF.out.2.2.2.2.below (hb))))))
  refine hK _ _ (fun _ => HF'.out) ?_
  clear hK K HF hb
  have HF := hide HF'.out
  clear HF'
  refine Calm.take (i := 14) (v := ?_) (a' := ?_) (l' := #[true, true, true, true, true, true, true, true, true, true, true, true, true, true, true, false, false]) (d := some 19) rfl (by kernel_rfl) (by kernel_rfl) (by kernel_rfl) (by kernel_rfl) (fun _ _ _ h => h) HF.out (by kernel_rfl) ?_ rfl rfl ?_ ?_
  rotate_left
  · intro w' hF; clear hF; go_simp; try rfl
  rotate_left
  · simp only [Act.put]; exact rfl
  refine Calm.take (i := 15) (v := ?_) (a' := ?_) (l' := #[true, true, true, true, true, true, true, true, true, true, true, true, true, true, true, true, false]) (d := some 20) rfl (by kernel_rfl) (by kernel_rfl) (by kernel_rfl) (by kernel_rfl) (fun _ _ _ h => h) HF.out rfl ?_ rfl rfl ?_ ?_
  rotate_left
  · intro w' hF; clear hF; go_simp; try rfl
  rotate_left
  · simp only [Act.put]; exact rfl
  refine Calm.take (i := 16) (v := ?_) (a' := ?_) (l' := #[true, true, true, true, true, true, true, true, true, true, true, true, true, true, true, true, true]) (d := some 4) rfl (by kernel_rfl) (by kernel_rfl) (by kernel_rfl) (by kernel_rfl) (fun _ _ _ h => h) HF.out rfl ?_ rfl rfl ?_ ?_
  rotate_left
  · intro w' hF; clear hF; go_simp; try rfl
  rotate_left
  · simp only [Act.put]; exact rfl
  refine Calm.done (by kernel_rfl) ?_
  replace HB := hide HF.out.1
  replace P0 := hide HF.out.2.1
  replace P1 := hide HF.out.2.2.1
  replace I1 := hide HF.out.2.2.2.1
  replace I2 := hide HF.out.2.2.2.2
  clear HF
  go_wp2
  go_ret
  exact ⟨rfl, HB.out⟩

theorem ret_nums {fn : Func} {R : Ending → World → Prop} {a : Act} {w : World} {p0 p1 p2 p3 k : Tmp} (h : fn.results = #[.cell p0 25, .cell p1 25, .cell p2 57, .cell p3 57, .tmp k]) (g0 g1 g2 g3 : Nat) (x00 x01 x10 x11 x20 x21 x30 x31 : Value) (b : Bool)
    (hp0 : a.tmps.getD p0 undef = .pointer (some ⟨g0, 0, none⟩)) (hg0 : Box w g0 x00 x01) (hp1 : a.tmps.getD p1 undef = .pointer (some ⟨g1, 0, none⟩)) (hg1 : Box w g1 x10 x11) (hp2 : a.tmps.getD p2 undef = .pointer (some ⟨g2, 0, none⟩)) (hg2 : BoxR w g2 x20 x21) (hp3 : a.tmps.getD p3 undef = .pointer (some ⟨g3, 0, none⟩)) (hg3 : BoxR w g3 x30 x31) (hk : a.tmps.getD k undef = .bool b) (hd : a.defers = []) (hR : R (.returned (.tuple #[.agg #[x00, x01], .agg #[x10, x11], .agg #[x20, x21], .agg #[x30, x31], .bool b])) w) : bodyPost Try.prog fn R .ret a w := by
  refine bodyPost_ret ?_ hd hR
  have hp0' : a.tmps[p0]?.getD undef = .pointer (some ⟨g0, 0, none⟩) := by simpa using hp0
  have hp1' : a.tmps[p1]?.getD undef = .pointer (some ⟨g1, 0, none⟩) := by simpa using hp1
  have hp2' : a.tmps[p2]?.getD undef = .pointer (some ⟨g2, 0, none⟩) := by simpa using hp2
  have hp3' : a.tmps[p3]?.getD undef = .pointer (some ⟨g3, 0, none⟩) := by simpa using hp3
  have hk' : a.tmps[k]?.getD undef = .bool b := by simpa using hk
  simp [results, h, hp0', hp1', hp2', hp3', hk', asAddr, run_loadVar_row w g0 25 25 #[x00, x01] (0, 0) _ hg0 Try.underlying25 rfl Try.infoI3, run_loadVar_row w g1 25 25 #[x10, x11] (0, 0) _ hg1 Try.underlying25 rfl Try.infoI3, run_loadVar_row w g2 57 57 #[x20, x21] (0, 0) _ hg2 Try.underlying57 rfl Try.infoRef, run_loadVar_row w g3 57 57 #[x30, x31] (0, 0) _ hg3 Try.underlying57 rfl Try.infoRef]

/-- two numbers of the program, two of the document: the same, if it is said so -/
def Nums3 (e : Ending) (w : World) : Prop := ∃ v1 v2 u1 u2 z1 z2 z3 z4 ok, e = .returned (.tuple #[v1, v2, u1, u2, .bool ok]) ∧ IntAt w v1 z1 ∧ IntAt w v2 z2 ∧ RInt w u1 z3 ∧ RInt w u2 z4 ∧ (ok = true → z1 = z3 ∧ z2 = z4 ∧ SzI 300 z3 ∧ SzI 300 z4)

set_option maxRecDepth 100000 in
set_option maxHeartbeats 8000000 in
theorem numbers_any (a b : ByteArray) (w : World) (la : a.size ≤ 300) (lb : b.size ≤ 300) :
    Calls Try.prog 50 #[.agg #[.string a, .string b]] w fun e w' => Nums3 e w' ∧ Below w.heap.size w w' := by
  have LA := hide la
  have LB := hide lb
  clear la lb
  have P0 := BoxF.new w (.string a) (.string b)
  replace P0 := P0.step (below_alloc _ (.cells #[.bool false, .slice none 0 0] 25))
  replace P0 := P0.step (below_alloc _ (.cells #[.bool false, .slice none 0 0] 25))
  replace P0 := P0.step (below_alloc _ (.cells #[.bool false, .slice none 0 0] 57))
  replace P0 := P0.step (below_alloc _ (.cells #[.bool false, .slice none 0 0] 57))
  replace P0 := hide P0
  have P1 := Box.new (w.alloc (.cells #[.string a, .string b] 55)) (.bool false) (.slice none 0 0)
  simp only [World.size_alloc] at P1
  replace P1 := P1.step (below_alloc _ (.cells #[.bool false, .slice none 0 0] 25))
  replace P1 := P1.step (below_alloc _ (.cells #[.bool false, .slice none 0 0] 57))
  replace P1 := P1.step (below_alloc _ (.cells #[.bool false, .slice none 0 0] 57))
  replace P1 := hide P1
  have P2 := Box.new ((w.alloc (.cells #[.string a, .string b] 55)).alloc (.cells #[.bool false, .slice none 0 0] 25)) (.bool false) (.slice none 0 0)
  simp only [World.size_alloc] at P2
  replace P2 := P2.step (below_alloc _ (.cells #[.bool false, .slice none 0 0] 57))
  replace P2 := P2.step (below_alloc _ (.cells #[.bool false, .slice none 0 0] 57))
  replace P2 := hide P2
  have P3 := BoxR.new (((w.alloc (.cells #[.string a, .string b] 55)).alloc (.cells #[.bool false, .slice none 0 0] 25)).alloc (.cells #[.bool false, .slice none 0 0] 25)) (.bool false) (.slice none 0 0)
  simp only [World.size_alloc] at P3
  replace P3 := P3.step (below_alloc _ (.cells #[.bool false, .slice none 0 0] 57))
  replace P3 := hide P3
  have P4 := BoxR.new ((((w.alloc (.cells #[.string a, .string b] 55)).alloc (.cells #[.bool false, .slice none 0 0] 25)).alloc (.cells #[.bool false, .slice none 0 0] 25)).alloc (.cells #[.bool false, .slice none 0 0] 57)) (.bool false) (.slice none 0 0)
  simp only [World.size_alloc] at P4
  replace P4 := hide P4
  have HB := below_alloc w (.cells #[.string a, .string b] 55)
  replace HB := HB.trans ((below_alloc _ (.cells #[.bool false, .slice none 0 0] 25)).mono (by simp only [World.size_alloc]; omega))
  replace HB := HB.trans ((below_alloc _ (.cells #[.bool false, .slice none 0 0] 25)).mono (by simp only [World.size_alloc]; omega))
  replace HB := HB.trans ((below_alloc _ (.cells #[.bool false, .slice none 0 0] 57)).mono (by simp only [World.size_alloc]; omega))
  replace HB := HB.trans ((below_alloc _ (.cells #[.bool false, .slice none 0 0] 57)).mono (by simp only [World.size_alloc]; omega))
  replace HB := hide HB
  go_enter Try.func50, Try.ntmps50
  go_wp2_with fail
  generalize (((((w.alloc (.cells #[.string a, .string b] 55)).alloc (.cells #[.bool false, .slice none 0 0] 25)).alloc (.cells #[.bool false, .slice none 0 0] 25)).alloc (.cells #[.bool false, .slice none 0 0] 57)).alloc (.cells #[.bool false, .slice none 0 0] 57)) = w0 at *
  refine (rread2_any a _ (Nat.le_trans LA.out (by decide))).mono ?_
  rintro e u1 ⟨v, z1, q1, rfl, kx1, hr, hb⟩
  obtain ⟨s1, m1, n1, c1, rfl, ky1⟩ := kx1.cells
  have R1 := hide hr
  replace P0 := hide (P0.out.step (hb))
  replace P1 := hide (P1.out.step (hb))
  replace P2 := hide (P2.out.step (hb))
  replace P3 := hide (P3.out.step (hb))
  replace P4 := hide (P4.out.step (hb))
  replace HB := hide (HB.out.trans ((hb).mono HB.out.size))
  have I1 := hide (ky1)
  clear hb kx1 ky1 hr
  have hP00 := P0.out.cell0
  have hP01 := P0.out.cell1
  have lt0 := P0.out.lt
  go_wp2_with fail
  clear lt0
  clear hP00 hP01
  have hp1 := P4.out.lt
  have al := below_alloc u1 (.cells #[.bool s1, .slice m1 n1 c1] 57)
  replace P0 := hide (P0.out.step (al))
  replace P1 := hide (P1.out.step (al))
  replace P2 := hide (P2.out.step (al))
  replace P3 := hide (P3.out.step (al))
  replace P4 := hide (P4.out.step (al))
  replace HB := hide (HB.out.trans ((al).mono HB.out.size))
  replace I1 := hide (I1.out.below (al))
  have V1 := hide (BoxR.new u1 (.bool s1) (.slice m1 n1 c1))
  clear al
  generalize u1.alloc (.cells #[.bool s1, .slice m1 n1 c1] 57) = u1a at *
  generalize u1.heap.size = g1 at *
  refine (rread2_any b _ (Nat.le_trans LB.out (by decide))).mono ?_
  rintro e u2 ⟨v, z2, q2, rfl, kx2, hr, hb⟩
  obtain ⟨s2, m2, n2, c2, rfl, ky2⟩ := kx2.cells
  have R2 := hide hr
  replace P0 := hide (P0.out.step (hb))
  replace P1 := hide (P1.out.step (hb))
  replace P2 := hide (P2.out.step (hb))
  replace P3 := hide (P3.out.step (hb))
  replace P4 := hide (P4.out.step (hb))
  replace HB := hide (HB.out.trans ((hb).mono HB.out.size))
  replace I1 := hide (I1.out.below (hb))
  replace V1 := hide (V1.out.step (hb))
  have I2 := hide (ky2)
  clear hb kx2 ky2 hr
  have HP1 := hide hp1
  clear hp1
  go_upto_region 3 with fail
  have hp2 := P4.out.lt
  have al := below_alloc u2 (.cells #[.bool s2, .slice m2 n2 c2] 57)
  replace P0 := hide (P0.out.step (al))
  replace P1 := hide (P1.out.step (al))
  replace P2 := hide (P2.out.step (al))
  replace P3 := hide (P3.out.step (al))
  replace P4 := hide (P4.out.step (al))
  replace HB := hide (HB.out.trans ((al).mono HB.out.size))
  replace I1 := hide (I1.out.below (al))
  replace V1 := hide (V1.out.step (al))
  replace I2 := hide (I2.out.below (al))
  have V2 := hide (BoxR.new u2 (.bool s2) (.slice m2 n2 c2))
  clear al
  generalize u2.alloc (.cells #[.bool s2, .slice m2 n2 c2] 57) = u2a at *
  generalize u2.heap.size = g2 at *
  have LTS := hide (And.intro HP1.out hp2)
  clear hp2 HP1
  rcases R1.out with ⟨a1, b1, k1, k2, k3, rfl⟩ | ⟨k1, rfl⟩
  · clear R1 R2 k1 k2 k3
    have h0 : ¬ ((b1 : Nat) : Int) < 0 := by omega
    have h1 : 0 ≤ ((b1 : Nat) : Int) := by omega
    go_upto_region 4 with fail
    clear h0 h1
    replace P1 := hide P1.out.drew
    replace P2 := hide P2.out.drew
    replace P3 := hide P3.out.drew
    replace P4 := hide P4.out.drew
    replace I1 := hide I1.out.drew
    replace I2 := hide I2.out.drew
    refine wp_calm (fun w' => Below w.heap.size w w' ∧ BoxR w' g1 (.bool s1) (.slice m1 n1 c1) ∧ BoxR w' g2 (.bool s2) (.slice m2 n2 c2)) (fun _ => true) 9 #[false, false, false, false, false, false, false, false, false] (by kernel_rfl) rfl rfl ?_
    have HF := hide (And.intro (HB.out.drew) (And.intro (V1.out.drew) (V2.out.drew)))
    generalize u2a.drew = u2ad at *
    refine Calm.take (i := 0) (v := ?_) (a' := ?_) (l' := #[true, false, false, false, false, false, false, false, false]) (d := some 33) rfl (by kernel_rfl) (by kernel_rfl) (by kernel_rfl) (by kernel_rfl) (fun _ _ _ h => h) HF.out rfl ?_ rfl rfl ?_ ?_
    rotate_left
    · intro w' hF; clear hF; go_simp; try rfl
    rotate_left
    · simp only [Act.put]; exact rfl
    refine Calm.take (i := 1) (v := ?_) (a' := ?_) (l' := #[true, true, false, false, false, false, false, false, false]) (d := some 34) rfl (by kernel_rfl) (by kernel_rfl) (by kernel_rfl) (by kernel_rfl) (fun _ _ _ h => h) HF.out rfl ?_ rfl rfl ?_ ?_
    rotate_left
    · intro w' hF; clear hF; go_simp; try rfl
    rotate_left
    · simp only [Act.put]; exact rfl
    refine Calm.take (i := 2) (v := ?_) (a' := ?_) (l' := #[true, true, true, false, false, false, false, false, false]) (d := some 35) rfl (by kernel_rfl) (by kernel_rfl) (by kernel_rfl) (by kernel_rfl) (fun _ _ _ h => h) HF.out rfl ?_ rfl rfl ?_ ?_
    rotate_left
    · intro w' hF; have f10 := hF.2.1.cell0; have f11 := hF.2.1.cell1; have f20 := hF.2.2.cell0; have f21 := hF.2.2.cell1; clear hF; go_simp; try rfl
    rotate_left
    · simp only [Act.put]; exact rfl
    refine Calm.take (i := 3) (v := ?_) (a' := ?_) (l' := #[true, true, true, true, false, false, false, false, false]) (d := some 36) rfl (by kernel_rfl) (by kernel_rfl) (by kernel_rfl) (by kernel_rfl) (fun _ _ _ h => h) HF.out rfl ?_ rfl rfl ?_ ?_
    rotate_left
    · intro w' hF; have f10 := hF.2.1.cell0; have f11 := hF.2.1.cell1; have f20 := hF.2.2.cell0; have f21 := hF.2.2.cell1; clear hF; go_simp; try rfl
    rotate_left
    · simp only [Act.put]; exact rfl
    refine Calm.one (i := 4) (l' := #[true, true, true, true, true, false, false, false, false]) (by kernel_rfl) rfl rfl rfl fun K hK => ?_
    have hc0 := P1.out.cell0
    have hc1 := P1.out.cell1
    have hf0 := P1.out.free 0
    have hf1 := P1.out.free 1
    go_simp
    have HF' := hide (And.intro (below_put HF.out.1 (show w.heap.size ≤ (w.heap.size + 1) by have hx := LTS.out; omega) (.bool false) (.slice none 0 0)) (And.intro (HF.out.2.1.other (C := (w.heap.size + 1)) (by have hx := LTS.out; omega) (.bool false) (.slice none 0 0)) (HF.out.2.2.other (C := (w.heap.size + 1)) (by have hx := LTS.out; omega) (.bool false) (.slice none 0 0))))
    replace P2 := hide (P2.out.other (C := (w.heap.size + 1)) (by have hx := LTS.out; omega) (.bool false) (.slice none 0 0))
    replace P3 := hide (P3.out.other (C := (w.heap.size + 1)) (by have hx := LTS.out; omega) (.bool false) (.slice none 0 0))
    replace P4 := hide (P4.out.other (C := (w.heap.size + 1)) (by have hx := LTS.out; omega) (.bool false) (.slice none 0 0))
    replace I1 := hide (I1.out.keep (P1.out.keeps (by simp) (by simp) (.bool false) (.slice none 0 0)))
    replace I2 := hide (I2.out.keep (P1.out.keeps (by simp) (by simp) (.bool false) (.slice none 0 0)))
    replace P1 := hide (P1.out.put (.bool false) (.slice none 0 0))
    refine hK _ _ (fun _ => HF'.out) ?_
    clear hK K HF hc0 hf0 hc1 hf1
    have HF := hide HF'.out
    clear HF'
    generalize ((u2ad.setCell ⟨(w.heap.size + 1), 0, none⟩ (.bool false)).setCell ⟨(w.heap.size + 1), 1, none⟩ (.slice none 0 0)) = x1 at *
    refine Calm.one (i := 5) (l' := #[true, true, true, true, true, true, false, false, false]) (by kernel_rfl) rfl rfl rfl fun K hK => ?_
    have hc0 := P2.out.cell0
    have hc1 := P2.out.cell1
    have hf0 := P2.out.free 0
    have hf1 := P2.out.free 1
    go_simp
    have HF' := hide (And.intro (below_put HF.out.1 (show w.heap.size ≤ (w.heap.size + 1 + 1) by have hx := LTS.out; omega) (.bool false) (.slice none 0 0)) (And.intro (HF.out.2.1.other (C := (w.heap.size + 1 + 1)) (by have hx := LTS.out; omega) (.bool false) (.slice none 0 0)) (HF.out.2.2.other (C := (w.heap.size + 1 + 1)) (by have hx := LTS.out; omega) (.bool false) (.slice none 0 0))))
    replace P1 := hide (P1.out.other (C := (w.heap.size + 1 + 1)) (by have hx := LTS.out; omega) (.bool false) (.slice none 0 0))
    replace P3 := hide (P3.out.other (C := (w.heap.size + 1 + 1)) (by have hx := LTS.out; omega) (.bool false) (.slice none 0 0))
    replace P4 := hide (P4.out.other (C := (w.heap.size + 1 + 1)) (by have hx := LTS.out; omega) (.bool false) (.slice none 0 0))
    replace I1 := hide (I1.out.keep (P2.out.keeps (by simp) (by simp) (.bool false) (.slice none 0 0)))
    replace I2 := hide (I2.out.keep (P2.out.keeps (by simp) (by simp) (.bool false) (.slice none 0 0)))
    replace P2 := hide (P2.out.put (.bool false) (.slice none 0 0))
    refine hK _ _ (fun _ => HF'.out) ?_
    clear hK K HF hc0 hf0 hc1 hf1
    have HF := hide HF'.out
    clear HF'
    generalize ((x1.setCell ⟨(w.heap.size + 1 + 1), 0, none⟩ (.bool false)).setCell ⟨(w.heap.size + 1 + 1), 1, none⟩ (.slice none 0 0)) = x2 at *
    refine Calm.one (i := 6) (l' := #[true, true, true, true, true, true, true, false, false]) (by kernel_rfl) rfl rfl rfl fun K hK => ?_
    have hc0 := P3.out.cell0
    have hc1 := P3.out.cell1
    have hf0 := P3.out.free 0
    have hf1 := P3.out.free 1
    go_simp
    have HF' := hide (And.intro (below_put HF.out.1 (show w.heap.size ≤ (w.heap.size + 1 + 1 + 1) by have hx := LTS.out; omega) (.bool s1) (.slice m1 n1 c1)) (And.intro (HF.out.2.1.other (C := (w.heap.size + 1 + 1 + 1)) (by have hx := LTS.out; omega) (.bool s1) (.slice m1 n1 c1)) (HF.out.2.2.other (C := (w.heap.size + 1 + 1 + 1)) (by have hx := LTS.out; omega) (.bool s1) (.slice m1 n1 c1))))
    replace P1 := hide (P1.out.other (C := (w.heap.size + 1 + 1 + 1)) (by have hx := LTS.out; omega) (.bool s1) (.slice m1 n1 c1))
    replace P2 := hide (P2.out.other (C := (w.heap.size + 1 + 1 + 1)) (by have hx := LTS.out; omega) (.bool s1) (.slice m1 n1 c1))
    replace P4 := hide (P4.out.other (C := (w.heap.size + 1 + 1 + 1)) (by have hx := LTS.out; omega) (.bool s1) (.slice m1 n1 c1))
    replace I1 := hide (I1.out.keep (P3.out.keeps (by simp) (by simp) (.bool s1) (.slice m1 n1 c1)))
    replace I2 := hide (I2.out.keep (P3.out.keeps (by simp) (by simp) (.bool s1) (.slice m1 n1 c1)))
    replace P3 := hide (P3.out.put (.bool s1) (.slice m1 n1 c1))
    refine hK _ _ (fun _ => HF'.out) ?_
    clear hK K HF hc0 hf0 hc1 hf1
    have HF := hide HF'.out
    clear HF'
    generalize ((x2.setCell ⟨(w.heap.size + 1 + 1 + 1), 0, none⟩ (.bool s1)).setCell ⟨(w.heap.size + 1 + 1 + 1), 1, none⟩ (.slice m1 n1 c1)) = x3 at *
    refine Calm.one (i := 7) (l' := #[true, true, true, true, true, true, true, true, false]) (by kernel_rfl) rfl rfl rfl fun K hK => ?_
    have hc0 := P4.out.cell0
    have hc1 := P4.out.cell1
    have hf0 := P4.out.free 0
    have hf1 := P4.out.free 1
    go_simp
    have HF' := hide (And.intro (below_put HF.out.1 (show w.heap.size ≤ (w.heap.size + 1 + 1 + 1 + 1) by have hx := LTS.out; omega) (.bool s2) (.slice m2 n2 c2)) (And.intro (HF.out.2.1.other (C := (w.heap.size + 1 + 1 + 1 + 1)) (by have hx := LTS.out; omega) (.bool s2) (.slice m2 n2 c2)) (HF.out.2.2.other (C := (w.heap.size + 1 + 1 + 1 + 1)) (by have hx := LTS.out; omega) (.bool s2) (.slice m2 n2 c2))))
    replace P1 := hide (P1.out.other (C := (w.heap.size + 1 + 1 + 1 + 1)) (by have hx := LTS.out; omega) (.bool s2) (.slice m2 n2 c2))
    replace P2 := hide (P2.out.other (C := (w.heap.size + 1 + 1 + 1 + 1)) (by have hx := LTS.out; omega) (.bool s2) (.slice m2 n2 c2))
    replace P3 := hide (P3.out.other (C := (w.heap.size + 1 + 1 + 1 + 1)) (by have hx := LTS.out; omega) (.bool s2) (.slice m2 n2 c2))
    replace I1 := hide (I1.out.keep (P4.out.keeps (by simp) (by simp) (.bool s2) (.slice m2 n2 c2)))
    replace I2 := hide (I2.out.keep (P4.out.keeps (by simp) (by simp) (.bool s2) (.slice m2 n2 c2)))
    replace P4 := hide (P4.out.put (.bool s2) (.slice m2 n2 c2))
    refine hK _ _ (fun _ => HF'.out) ?_
    clear hK K HF hc0 hf0 hc1 hf1
    have HF := hide HF'.out
    clear HF'
    generalize ((x3.setCell ⟨(w.heap.size + 1 + 1 + 1 + 1), 0, none⟩ (.bool s2)).setCell ⟨(w.heap.size + 1 + 1 + 1 + 1), 1, none⟩ (.slice m2 n2 c2)) = x4 at *
    refine Calm.take (i := 8) (v := ?_) (a' := ?_) (l' := #[true, true, true, true, true, true, true, true, true]) (d := some 6) rfl (by kernel_rfl) (by kernel_rfl) (by kernel_rfl) (by kernel_rfl) (fun _ _ _ h => h) HF.out rfl ?_ rfl rfl ?_ ?_
    rotate_left
    · intro w' hF; clear hF; go_simp; try rfl
    rotate_left
    · simp only [Act.put]; exact rfl
    refine Calm.done (by kernel_rfl) ?_
    replace HB := hide HF.out.1
    replace V1 := hide HF.out.2.1
    replace V2 := hide HF.out.2.2
    clear HF
    clear P0
    go_wp2
    refine ret_nums rfl (w.heap.size + 1) (w.heap.size + 1 + 1) (w.heap.size + 1 + 1 + 1) (w.heap.size + 1 + 1 + 1 + 1) _ _ _ _ _ _ _ _ _ rfl P1.out rfl P2.out rfl P3.out rfl P4.out rfl rfl ?_
    exact ⟨⟨_, _, _, _, 0, 0, z1, z2, false, rfl, int_zero0 _, int_zero0 _, I1.out, I2.out, fun h => by cases h⟩, HB.out⟩
  · have K1 := hide k1
    clear R1 k1
    rcases R2.out with ⟨a2, b2, k1, k2, k3, rfl⟩ | ⟨k2, rfl⟩
    · clear R2 K1 k1 k2 k3
      have h0 : ¬ ((b2 : Nat) : Int) < 0 := by omega
      have h1 : 0 ≤ ((b2 : Nat) : Int) := by omega
      go_upto_region 4 with fail
      clear h0 h1
      replace P1 := hide P1.out.drew
      replace P2 := hide P2.out.drew
      replace P3 := hide P3.out.drew
      replace P4 := hide P4.out.drew
      replace I1 := hide I1.out.drew
      replace I2 := hide I2.out.drew
      refine wp_calm (fun w' => Below w.heap.size w w' ∧ BoxR w' g1 (.bool s1) (.slice m1 n1 c1) ∧ BoxR w' g2 (.bool s2) (.slice m2 n2 c2)) (fun _ => true) 9 #[false, false, false, false, false, false, false, false, false] (by kernel_rfl) rfl rfl ?_
      have HF := hide (And.intro (HB.out.drew) (And.intro (V1.out.drew) (V2.out.drew)))
      generalize u2a.drew = u2ad at *
      refine Calm.take (i := 0) (v := ?_) (a' := ?_) (l' := #[true, false, false, false, false, false, false, false, false]) (d := some 33) rfl (by kernel_rfl) (by kernel_rfl) (by kernel_rfl) (by kernel_rfl) (fun _ _ _ h => h) HF.out rfl ?_ rfl rfl ?_ ?_
      rotate_left
      · intro w' hF; clear hF; go_simp; try rfl
      rotate_left
      · simp only [Act.put]; exact rfl
      refine Calm.take (i := 1) (v := ?_) (a' := ?_) (l' := #[true, true, false, false, false, false, false, false, false]) (d := some 34) rfl (by kernel_rfl) (by kernel_rfl) (by kernel_rfl) (by kernel_rfl) (fun _ _ _ h => h) HF.out rfl ?_ rfl rfl ?_ ?_
      rotate_left
      · intro w' hF; clear hF; go_simp; try rfl
      rotate_left
      · simp only [Act.put]; exact rfl
      refine Calm.take (i := 2) (v := ?_) (a' := ?_) (l' := #[true, true, true, false, false, false, false, false, false]) (d := some 35) rfl (by kernel_rfl) (by kernel_rfl) (by kernel_rfl) (by kernel_rfl) (fun _ _ _ h => h) HF.out rfl ?_ rfl rfl ?_ ?_
      rotate_left
      · intro w' hF; have f10 := hF.2.1.cell0; have f11 := hF.2.1.cell1; have f20 := hF.2.2.cell0; have f21 := hF.2.2.cell1; clear hF; go_simp; try rfl
      rotate_left
      · simp only [Act.put]; exact rfl
      refine Calm.take (i := 3) (v := ?_) (a' := ?_) (l' := #[true, true, true, true, false, false, false, false, false]) (d := some 36) rfl (by kernel_rfl) (by kernel_rfl) (by kernel_rfl) (by kernel_rfl) (fun _ _ _ h => h) HF.out rfl ?_ rfl rfl ?_ ?_
      rotate_left
      · intro w' hF; have f10 := hF.2.1.cell0; have f11 := hF.2.1.cell1; have f20 := hF.2.2.cell0; have f21 := hF.2.2.cell1; clear hF; go_simp; try rfl
      rotate_left
      · simp only [Act.put]; exact rfl
      refine Calm.one (i := 4) (l' := #[true, true, true, true, true, false, false, false, false]) (by kernel_rfl) rfl rfl rfl fun K hK => ?_
      have hc0 := P1.out.cell0
      have hc1 := P1.out.cell1
      have hf0 := P1.out.free 0
      have hf1 := P1.out.free 1
      go_simp
      have HF' := hide (And.intro (below_put HF.out.1 (show w.heap.size ≤ (w.heap.size + 1) by have hx := LTS.out; omega) (.bool false) (.slice none 0 0)) (And.intro (HF.out.2.1.other (C := (w.heap.size + 1)) (by have hx := LTS.out; omega) (.bool false) (.slice none 0 0)) (HF.out.2.2.other (C := (w.heap.size + 1)) (by have hx := LTS.out; omega) (.bool false) (.slice none 0 0))))
      replace P2 := hide (P2.out.other (C := (w.heap.size + 1)) (by have hx := LTS.out; omega) (.bool false) (.slice none 0 0))
      replace P3 := hide (P3.out.other (C := (w.heap.size + 1)) (by have hx := LTS.out; omega) (.bool false) (.slice none 0 0))
      replace P4 := hide (P4.out.other (C := (w.heap.size + 1)) (by have hx := LTS.out; omega) (.bool false) (.slice none 0 0))
      replace I1 := hide (I1.out.keep (P1.out.keeps (by simp) (by simp) (.bool false) (.slice none 0 0)))
      replace I2 := hide (I2.out.keep (P1.out.keeps (by simp) (by simp) (.bool false) (.slice none 0 0)))
      replace P1 := hide (P1.out.put (.bool false) (.slice none 0 0))
      refine hK _ _ (fun _ => HF'.out) ?_
      clear hK K HF hc0 hf0 hc1 hf1
      have HF := hide HF'.out
      clear HF'
      generalize ((u2ad.setCell ⟨(w.heap.size + 1), 0, none⟩ (.bool false)).setCell ⟨(w.heap.size + 1), 1, none⟩ (.slice none 0 0)) = x1 at *
      refine Calm.one (i := 5) (l' := #[true, true, true, true, true, true, false, false, false]) (by kernel_rfl) rfl rfl rfl fun K hK => ?_
      have hc0 := P2.out.cell0
      have hc1 := P2.out.cell1
      have hf0 := P2.out.free 0
      have hf1 := P2.out.free 1
      go_simp
      have HF' := hide (And.intro (below_put HF.out.1 (show w.heap.size ≤ (w.heap.size + 1 + 1) by have hx := LTS.out; omega) (.bool false) (.slice none 0 0)) (And.intro (HF.out.2.1.other (C := (w.heap.size + 1 + 1)) (by have hx := LTS.out; omega) (.bool false) (.slice none 0 0)) (HF.out.2.2.other (C := (w.heap.size + 1 + 1)) (by have hx := LTS.out; omega) (.bool false) (.slice none 0 0))))
      replace P1 := hide (P1.out.other (C := (w.heap.size + 1 + 1)) (by have hx := LTS.out; omega) (.bool false) (.slice none 0 0))
      replace P3 := hide (P3.out.other (C := (w.heap.size + 1 + 1)) (by have hx := LTS.out; omega) (.bool false) (.slice none 0 0))
      replace P4 := hide (P4.out.other (C := (w.heap.size + 1 + 1)) (by have hx := LTS.out; omega) (.bool false) (.slice none 0 0))
      replace I1 := hide (I1.out.keep (P2.out.keeps (by simp) (by simp) (.bool false) (.slice none 0 0)))
      replace I2 := hide (I2.out.keep (P2.out.keeps (by simp) (by simp) (.bool false) (.slice none 0 0)))
      replace P2 := hide (P2.out.put (.bool false) (.slice none 0 0))
      refine hK _ _ (fun _ => HF'.out) ?_
      clear hK K HF hc0 hf0 hc1 hf1
      have HF := hide HF'.out
      clear HF'
      generalize ((x1.setCell ⟨(w.heap.size + 1 + 1), 0, none⟩ (.bool false)).setCell ⟨(w.heap.size + 1 + 1), 1, none⟩ (.slice none 0 0)) = x2 at *
      refine Calm.one (i := 6) (l' := #[true, true, true, true, true, true, true, false, false]) (by kernel_rfl) rfl rfl rfl fun K hK => ?_
      have hc0 := P3.out.cell0
      have hc1 := P3.out.cell1
      have hf0 := P3.out.free 0
      have hf1 := P3.out.free 1
      go_simp
      have HF' := hide (And.intro (below_put HF.out.1 (show w.heap.size ≤ (w.heap.size + 1 + 1 + 1) by have hx := LTS.out; omega) (.bool s1) (.slice m1 n1 c1)) (And.intro (HF.out.2.1.other (C := (w.heap.size + 1 + 1 + 1)) (by have hx := LTS.out; omega) (.bool s1) (.slice m1 n1 c1)) (HF.out.2.2.other (C := (w.heap.size + 1 + 1 + 1)) (by have hx := LTS.out; omega) (.bool s1) (.slice m1 n1 c1))))
      replace P1 := hide (P1.out.other (C := (w.heap.size + 1 + 1 + 1)) (by have hx := LTS.out; omega) (.bool s1) (.slice m1 n1 c1))
      replace P2 := hide (P2.out.other (C := (w.heap.size + 1 + 1 + 1)) (by have hx := LTS.out; omega) (.bool s1) (.slice m1 n1 c1))
      replace P4 := hide (P4.out.other (C := (w.heap.size + 1 + 1 + 1)) (by have hx := LTS.out; omega) (.bool s1) (.slice m1 n1 c1))
      replace I1 := hide (I1.out.keep (P3.out.keeps (by simp) (by simp) (.bool s1) (.slice m1 n1 c1)))
      replace I2 := hide (I2.out.keep (P3.out.keeps (by simp) (by simp) (.bool s1) (.slice m1 n1 c1)))
      replace P3 := hide (P3.out.put (.bool s1) (.slice m1 n1 c1))
      refine hK _ _ (fun _ => HF'.out) ?_
      clear hK K HF hc0 hf0 hc1 hf1
      have HF := hide HF'.out
      clear HF'
      generalize ((x2.setCell ⟨(w.heap.size + 1 + 1 + 1), 0, none⟩ (.bool s1)).setCell ⟨(w.heap.size + 1 + 1 + 1), 1, none⟩ (.slice m1 n1 c1)) = x3 at *
      refine Calm.one (i := 7) (l' := #[true, true, true, true, true, true, true, true, false]) (by kernel_rfl) rfl rfl rfl fun K hK => ?_
      have hc0 := P4.out.cell0
      have hc1 := P4.out.cell1
      have hf0 := P4.out.free 0
      have hf1 := P4.out.free 1
      go_simp
      have HF' := hide (And.intro (below_put HF.out.1 (show w.heap.size ≤ (w.heap.size + 1 + 1 + 1 + 1) by have hx := LTS.out; omega) (.bool s2) (.slice m2 n2 c2)) (And.intro (HF.out.2.1.other (C := (w.heap.size + 1 + 1 + 1 + 1)) (by have hx := LTS.out; omega) (.bool s2) (.slice m2 n2 c2)) (HF.out.2.2.other (C := (w.heap.size + 1 + 1 + 1 + 1)) (by have hx := LTS.out; omega) (.bool s2) (.slice m2 n2 c2))))
      replace P1 := hide (P1.out.other (C := (w.heap.size + 1 + 1 + 1 + 1)) (by have hx := LTS.out; omega) (.bool s2) (.slice m2 n2 c2))
      replace P2 := hide (P2.out.other (C := (w.heap.size + 1 + 1 + 1 + 1)) (by have hx := LTS.out; omega) (.bool s2) (.slice m2 n2 c2))
      replace P3 := hide (P3.out.other (C := (w.heap.size + 1 + 1 + 1 + 1)) (by have hx := LTS.out; omega) (.bool s2) (.slice m2 n2 c2))
      replace I1 := hide (I1.out.keep (P4.out.keeps (by simp) (by simp) (.bool s2) (.slice m2 n2 c2)))
      replace I2 := hide (I2.out.keep (P4.out.keeps (by simp) (by simp) (.bool s2) (.slice m2 n2 c2)))
      replace P4 := hide (P4.out.put (.bool s2) (.slice m2 n2 c2))
      refine hK _ _ (fun _ => HF'.out) ?_
      clear hK K HF hc0 hf0 hc1 hf1
      have HF := hide HF'.out
      clear HF'
      generalize ((x3.setCell ⟨(w.heap.size + 1 + 1 + 1 + 1), 0, none⟩ (.bool s2)).setCell ⟨(w.heap.size + 1 + 1 + 1 + 1), 1, none⟩ (.slice m2 n2 c2)) = x4 at *
      refine Calm.take (i := 8) (v := ?_) (a' := ?_) (l' := #[true, true, true, true, true, true, true, true, true]) (d := some 6) rfl (by kernel_rfl) (by kernel_rfl) (by kernel_rfl) (by kernel_rfl) (fun _ _ _ h => h) HF.out rfl ?_ rfl rfl ?_ ?_
      rotate_left
      · intro w' hF; clear hF; go_simp; try rfl
      rotate_left
      · simp only [Act.put]; exact rfl
      refine Calm.done (by kernel_rfl) ?_
      replace HB := hide HF.out.1
      replace V1 := hide HF.out.2.1
      replace V2 := hide HF.out.2.2
      clear HF
      clear P0
      go_wp2
      refine ret_nums rfl (w.heap.size + 1) (w.heap.size + 1 + 1) (w.heap.size + 1 + 1 + 1) (w.heap.size + 1 + 1 + 1 + 1) _ _ _ _ _ _ _ _ _ rfl P1.out rfl P2.out rfl P3.out rfl P4.out rfl rfl ?_
      exact ⟨⟨_, _, _, _, 0, 0, z1, z2, false, rfl, int_zero0 _, int_zero0 _, I1.out, I2.out, fun h => by cases h⟩, HB.out⟩
    · have K2 := hide k2
      clear R2 k2
      have hP00 := P0.out.cell0
      have hP01 := P0.out.cell1
      go_wp2_with fail
      clear hP00 hP01
      refine (iread_any a _ (Nat.le_trans LA.out (by decide))).mono ?_
      rintro e u3 ⟨v, z3, e3, q3, rfl, kx3, hr, hb⟩
      obtain ⟨s3, m3, n3, c3, rfl, ky3⟩ := kx3.cells
      obtain ⟨rfl, rfl, rfl⟩ := hr.same K1.out
      replace P0 := hide (P0.out.step (hb))
      replace P1 := hide (P1.out.step (hb))
      replace P2 := hide (P2.out.step (hb))
      replace P3 := hide (P3.out.step (hb))
      replace P4 := hide (P4.out.step (hb))
      replace HB := hide (HB.out.trans ((hb).mono HB.out.size))
      replace I1 := hide (I1.out.below (hb))
      replace V1 := hide (V1.out.step (hb))
      replace I2 := hide (I2.out.below (hb))
      replace V2 := hide (V2.out.step (hb))
      have I3 := hide (ky3)
      clear hb kx3 ky3 hr
      have hP00 := P0.out.cell0
      have hP01 := P0.out.cell1
      have lt0 := P0.out.lt
      go_wp2_with fail
      clear lt0
      clear hP00 hP01
      have hp3 := P4.out.lt
      have V3 := Box.new u3 (.bool s3) (.slice m3 n3 c3)
      replace V3 := V3.step (below_alloc _ (.cells #[.int .i64 ((0 : Nat) : Int), .int .i64 ((0 : Nat) : Int)] 30))
      replace V3 := hide V3
      have S3 := BoxS.new (u3.alloc (.cells #[.bool s3, .slice m3 n3 c3] 25)) (.int .i64 ((0 : Nat) : Int)) (.int .i64 ((0 : Nat) : Int))
      simp only [World.size_alloc] at S3
      replace S3 := hide S3
      have al := below_alloc u3 (.cells #[.bool s3, .slice m3 n3 c3] 25)
      replace al := al.trans ((below_alloc _ (.cells #[.int .i64 ((0 : Nat) : Int), .int .i64 ((0 : Nat) : Int)] 30)).mono (by simp only [World.size_alloc]; omega))
      replace P0 := hide (P0.out.step (al))
      replace P1 := hide (P1.out.step (al))
      replace P2 := hide (P2.out.step (al))
      replace P3 := hide (P3.out.step (al))
      replace P4 := hide (P4.out.step (al))
      replace HB := hide (HB.out.trans ((al).mono HB.out.size))
      replace I1 := hide (I1.out.below (al))
      replace V1 := hide (V1.out.step (al))
      replace I2 := hide (I2.out.below (al))
      replace V2 := hide (V2.out.step (al))
      replace I3 := hide (I3.out.below (al))
      clear al
      generalize ((u3.alloc (.cells #[.bool s3, .slice m3 n3 c3] 25)).alloc (.cells #[.int .i64 ((0 : Nat) : Int), .int .i64 ((0 : Nat) : Int)] 30)) = u3a at *
      generalize u3.heap.size = g3 at *
      refine (iread_any b _ (Nat.le_trans LB.out (by decide))).mono ?_
      rintro e u4 ⟨v, z4, e4, q4, rfl, kx4, hr, hb⟩
      obtain ⟨s4, m4, n4, c4, rfl, ky4⟩ := kx4.cells
      obtain ⟨rfl, rfl, rfl⟩ := hr.same K2.out
      replace P0 := hide (P0.out.step (hb))
      replace P1 := hide (P1.out.step (hb))
      replace P2 := hide (P2.out.step (hb))
      replace P3 := hide (P3.out.step (hb))
      replace P4 := hide (P4.out.step (hb))
      replace HB := hide (HB.out.trans ((hb).mono HB.out.size))
      replace I1 := hide (I1.out.below (hb))
      replace V1 := hide (V1.out.step (hb))
      replace I2 := hide (I2.out.below (hb))
      replace V2 := hide (V2.out.step (hb))
      replace I3 := hide (I3.out.below (hb))
      replace V3 := hide (V3.out.step (hb))
      replace S3 := hide (S3.out.step (hb))
      have I4 := hide (ky4)
      clear hb kx4 ky4 hr
      go_upto_region 7 with fail
      have hp4 := P4.out.lt
      have V4 := Box.new u4 (.bool s4) (.slice m4 n4 c4)
      replace V4 := V4.step (below_alloc _ (.cells #[.int .i64 ((0 : Nat) : Int), .int .i64 ((0 : Nat) : Int)] 30))
      replace V4 := hide V4
      have S4 := BoxS.new (u4.alloc (.cells #[.bool s4, .slice m4 n4 c4] 25)) (.int .i64 ((0 : Nat) : Int)) (.int .i64 ((0 : Nat) : Int))
      simp only [World.size_alloc] at S4
      replace S4 := hide S4
      have al := below_alloc u4 (.cells #[.bool s4, .slice m4 n4 c4] 25)
      replace al := al.trans ((below_alloc _ (.cells #[.int .i64 ((0 : Nat) : Int), .int .i64 ((0 : Nat) : Int)] 30)).mono (by simp only [World.size_alloc]; omega))
      replace P0 := hide (P0.out.step (al))
      replace P1 := hide (P1.out.step (al))
      replace P2 := hide (P2.out.step (al))
      replace P3 := hide (P3.out.step (al))
      replace P4 := hide (P4.out.step (al))
      replace HB := hide (HB.out.trans ((al).mono HB.out.size))
      replace I1 := hide (I1.out.below (al))
      replace V1 := hide (V1.out.step (al))
      replace I2 := hide (I2.out.below (al))
      replace V2 := hide (V2.out.step (al))
      replace I3 := hide (I3.out.below (al))
      replace V3 := hide (V3.out.step (al))
      replace S3 := hide (S3.out.step (al))
      replace I4 := hide (I4.out.below (al))
      clear al
      generalize ((u4.alloc (.cells #[.bool s4, .slice m4 n4 c4] 25)).alloc (.cells #[.int .i64 ((0 : Nat) : Int), .int .i64 ((0 : Nat) : Int)] 30)) = u4a at *
      generalize u4.heap.size = g4 at *
      have LTS' := hide (And.intro LTS.out (And.intro hp3 hp4))
      clear hp3 hp4 LTS
      have LTS := hide LTS'.out
      clear LTS'
      replace P1 := hide P1.out.drew
      replace P2 := hide P2.out.drew
      replace P3 := hide P3.out.drew
      replace P4 := hide P4.out.drew
      replace I1 := hide I1.out.drew
      replace I2 := hide I2.out.drew
      replace I3 := hide I3.out.drew
      replace I4 := hide I4.out.drew
      refine wp_calm (fun w' => Below w.heap.size w w' ∧ BoxR w' g1 (.bool s1) (.slice m1 n1 c1) ∧ BoxR w' g2 (.bool s2) (.slice m2 n2 c2) ∧ Box w' g3 (.bool s3) (.slice m3 n3 c3) ∧ Box w' g4 (.bool s4) (.slice m4 n4 c4)) (fun _ => true) 9 #[false, false, false, false, false, false, false, false, false] (by kernel_rfl) rfl rfl ?_
      have HF := hide (And.intro (HB.out.drew) (And.intro (V1.out.drew) (And.intro (V2.out.drew) (And.intro (V3.out.drew) (V4.out.drew)))))
      generalize u4a.drew = u4ad at *
      refine Calm.take (i := 0) (v := ?_) (a' := ?_) (l' := #[true, false, false, false, false, false, false, false, false]) (d := some 49) rfl (by kernel_rfl) (by kernel_rfl) (by kernel_rfl) (by kernel_rfl) (fun _ _ _ h => h) HF.out rfl ?_ rfl rfl ?_ ?_
      rotate_left
      · intro w' hF; have f10 := hF.2.1.cell0; have f11 := hF.2.1.cell1; have f20 := hF.2.2.1.cell0; have f21 := hF.2.2.1.cell1; have f30 := hF.2.2.2.1.cell0; have f31 := hF.2.2.2.1.cell1; have f40 := hF.2.2.2.2.cell0; have f41 := hF.2.2.2.2.cell1; clear hF; go_simp; try rfl
      rotate_left
      · simp only [Act.put]; exact rfl
      refine Calm.take (i := 1) (v := ?_) (a' := ?_) (l' := #[true, true, false, false, false, false, false, false, false]) (d := some 50) rfl (by kernel_rfl) (by kernel_rfl) (by kernel_rfl) (by kernel_rfl) (fun _ _ _ h => h) HF.out rfl ?_ rfl rfl ?_ ?_
      rotate_left
      · intro w' hF; have f10 := hF.2.1.cell0; have f11 := hF.2.1.cell1; have f20 := hF.2.2.1.cell0; have f21 := hF.2.2.1.cell1; have f30 := hF.2.2.2.1.cell0; have f31 := hF.2.2.2.1.cell1; have f40 := hF.2.2.2.2.cell0; have f41 := hF.2.2.2.2.cell1; clear hF; go_simp; try rfl
      rotate_left
      · simp only [Act.put]; exact rfl
      refine Calm.take (i := 2) (v := ?_) (a' := ?_) (l' := #[true, true, true, false, false, false, false, false, false]) (d := some 51) rfl (by kernel_rfl) (by kernel_rfl) (by kernel_rfl) (by kernel_rfl) (fun _ _ _ h => h) HF.out rfl ?_ rfl rfl ?_ ?_
      rotate_left
      · intro w' hF; have f10 := hF.2.1.cell0; have f11 := hF.2.1.cell1; have f20 := hF.2.2.1.cell0; have f21 := hF.2.2.1.cell1; have f30 := hF.2.2.2.1.cell0; have f31 := hF.2.2.2.1.cell1; have f40 := hF.2.2.2.2.cell0; have f41 := hF.2.2.2.2.cell1; clear hF; go_simp; try rfl
      rotate_left
      · simp only [Act.put]; exact rfl
      refine Calm.take (i := 3) (v := ?_) (a' := ?_) (l' := #[true, true, true, true, false, false, false, false, false]) (d := some 52) rfl (by kernel_rfl) (by kernel_rfl) (by kernel_rfl) (by kernel_rfl) (fun _ _ _ h => h) HF.out rfl ?_ rfl rfl ?_ ?_
      rotate_left
      · intro w' hF; have f10 := hF.2.1.cell0; have f11 := hF.2.1.cell1; have f20 := hF.2.2.1.cell0; have f21 := hF.2.2.1.cell1; have f30 := hF.2.2.2.1.cell0; have f31 := hF.2.2.2.1.cell1; have f40 := hF.2.2.2.2.cell0; have f41 := hF.2.2.2.2.cell1; clear hF; go_simp; try rfl
      rotate_left
      · simp only [Act.put]; exact rfl
      refine Calm.one (i := 4) (l' := #[true, true, true, true, true, false, false, false, false]) (by kernel_rfl) rfl rfl rfl fun K hK => ?_
      have hc0 := P1.out.cell0
      have hc1 := P1.out.cell1
      have hf0 := P1.out.free 0
      have hf1 := P1.out.free 1
      go_simp
      have HF' := hide (And.intro (below_put HF.out.1 (show w.heap.size ≤ (w.heap.size + 1) by have hx := LTS.out; omega) (.bool s3) (.slice m3 n3 c3)) (And.intro (HF.out.2.1.other (C := (w.heap.size + 1)) (by have hx := LTS.out; omega) (.bool s3) (.slice m3 n3 c3)) (And.intro (HF.out.2.2.1.other (C := (w.heap.size + 1)) (by have hx := LTS.out; omega) (.bool s3) (.slice m3 n3 c3)) (And.intro (HF.out.2.2.2.1.other (C := (w.heap.size + 1)) (by have hx := LTS.out; omega) (.bool s3) (.slice m3 n3 c3)) (HF.out.2.2.2.2.other (C := (w.heap.size + 1)) (by have hx := LTS.out; omega) (.bool s3) (.slice m3 n3 c3))))))
      replace P2 := hide (P2.out.other (C := (w.heap.size + 1)) (by have hx := LTS.out; omega) (.bool s3) (.slice m3 n3 c3))
      replace P3 := hide (P3.out.other (C := (w.heap.size + 1)) (by have hx := LTS.out; omega) (.bool s3) (.slice m3 n3 c3))
      replace P4 := hide (P4.out.other (C := (w.heap.size + 1)) (by have hx := LTS.out; omega) (.bool s3) (.slice m3 n3 c3))
      replace I1 := hide (I1.out.keep (P1.out.keeps (by simp) (by simp) (.bool s3) (.slice m3 n3 c3)))
      replace I2 := hide (I2.out.keep (P1.out.keeps (by simp) (by simp) (.bool s3) (.slice m3 n3 c3)))
      replace I3 := hide (I3.out.keep (P1.out.keeps (by simp) (by simp) (.bool s3) (.slice m3 n3 c3)))
      replace I4 := hide (I4.out.keep (P1.out.keeps (by simp) (by simp) (.bool s3) (.slice m3 n3 c3)))
      replace P1 := hide (P1.out.put (.bool s3) (.slice m3 n3 c3))
      refine hK _ _ (fun _ => HF'.out) ?_
      clear hK K HF hc0 hf0 hc1 hf1
      have HF := hide HF'.out
      clear HF'
      generalize ((u4ad.setCell ⟨(w.heap.size + 1), 0, none⟩ (.bool s3)).setCell ⟨(w.heap.size + 1), 1, none⟩ (.slice m3 n3 c3)) = x1 at *
      refine Calm.one (i := 5) (l' := #[true, true, true, true, true, true, false, false, false]) (by kernel_rfl) rfl rfl rfl fun K hK => ?_
      have hc0 := P2.out.cell0
      have hc1 := P2.out.cell1
      have hf0 := P2.out.free 0
      have hf1 := P2.out.free 1
      go_simp
      have HF' := hide (And.intro (below_put HF.out.1 (show w.heap.size ≤ (w.heap.size + 1 + 1) by have hx := LTS.out; omega) (.bool s4) (.slice m4 n4 c4)) (And.intro (HF.out.2.1.other (C := (w.heap.size + 1 + 1)) (by have hx := LTS.out; omega) (.bool s4) (.slice m4 n4 c4)) (And.intro (HF.out.2.2.1.other (C := (w.heap.size + 1 + 1)) (by have hx := LTS.out; omega) (.bool s4) (.slice m4 n4 c4)) (And.intro (HF.out.2.2.2.1.other (C := (w.heap.size + 1 + 1)) (by have hx := LTS.out; omega) (.bool s4) (.slice m4 n4 c4)) (HF.out.2.2.2.2.other (C := (w.heap.size + 1 + 1)) (by have hx := LTS.out; omega) (.bool s4) (.slice m4 n4 c4))))))
      replace P1 := hide (P1.out.other (C := (w.heap.size + 1 + 1)) (by have hx := LTS.out; omega) (.bool s4) (.slice m4 n4 c4))
      replace P3 := hide (P3.out.other (C := (w.heap.size + 1 + 1)) (by have hx := LTS.out; omega) (.bool s4) (.slice m4 n4 c4))
      replace P4 := hide (P4.out.other (C := (w.heap.size + 1 + 1)) (by have hx := LTS.out; omega) (.bool s4) (.slice m4 n4 c4))
      replace I1 := hide (I1.out.keep (P2.out.keeps (by simp) (by simp) (.bool s4) (.slice m4 n4 c4)))
      replace I2 := hide (I2.out.keep (P2.out.keeps (by simp) (by simp) (.bool s4) (.slice m4 n4 c4)))
      replace I3 := hide (I3.out.keep (P2.out.keeps (by simp) (by simp) (.bool s4) (.slice m4 n4 c4)))
      replace I4 := hide (I4.out.keep (P2.out.keeps (by simp) (by simp) (.bool s4) (.slice m4 n4 c4)))
      replace P2 := hide (P2.out.put (.bool s4) (.slice m4 n4 c4))
      refine hK _ _ (fun _ => HF'.out) ?_
      clear hK K HF hc0 hf0 hc1 hf1
      have HF := hide HF'.out
      clear HF'
      generalize ((x1.setCell ⟨(w.heap.size + 1 + 1), 0, none⟩ (.bool s4)).setCell ⟨(w.heap.size + 1 + 1), 1, none⟩ (.slice m4 n4 c4)) = x2 at *
      refine Calm.one (i := 6) (l' := #[true, true, true, true, true, true, true, false, false]) (by kernel_rfl) rfl rfl rfl fun K hK => ?_
      have hc0 := P3.out.cell0
      have hc1 := P3.out.cell1
      have hf0 := P3.out.free 0
      have hf1 := P3.out.free 1
      go_simp
      have HF' := hide (And.intro (below_put HF.out.1 (show w.heap.size ≤ (w.heap.size + 1 + 1 + 1) by have hx := LTS.out; omega) (.bool s1) (.slice m1 n1 c1)) (And.intro (HF.out.2.1.other (C := (w.heap.size + 1 + 1 + 1)) (by have hx := LTS.out; omega) (.bool s1) (.slice m1 n1 c1)) (And.intro (HF.out.2.2.1.other (C := (w.heap.size + 1 + 1 + 1)) (by have hx := LTS.out; omega) (.bool s1) (.slice m1 n1 c1)) (And.intro (HF.out.2.2.2.1.other (C := (w.heap.size + 1 + 1 + 1)) (by have hx := LTS.out; omega) (.bool s1) (.slice m1 n1 c1)) (HF.out.2.2.2.2.other (C := (w.heap.size + 1 + 1 + 1)) (by have hx := LTS.out; omega) (.bool s1) (.slice m1 n1 c1))))))
      replace P1 := hide (P1.out.other (C := (w.heap.size + 1 + 1 + 1)) (by have hx := LTS.out; omega) (.bool s1) (.slice m1 n1 c1))
      replace P2 := hide (P2.out.other (C := (w.heap.size + 1 + 1 + 1)) (by have hx := LTS.out; omega) (.bool s1) (.slice m1 n1 c1))
      replace P4 := hide (P4.out.other (C := (w.heap.size + 1 + 1 + 1)) (by have hx := LTS.out; omega) (.bool s1) (.slice m1 n1 c1))
      replace I1 := hide (I1.out.keep (P3.out.keeps (by simp) (by simp) (.bool s1) (.slice m1 n1 c1)))
      replace I2 := hide (I2.out.keep (P3.out.keeps (by simp) (by simp) (.bool s1) (.slice m1 n1 c1)))
      replace I3 := hide (I3.out.keep (P3.out.keeps (by simp) (by simp) (.bool s1) (.slice m1 n1 c1)))
      replace I4 := hide (I4.out.keep (P3.out.keeps (by simp) (by simp) (.bool s1) (.slice m1 n1 c1)))
      replace P3 := hide (P3.out.put (.bool s1) (.slice m1 n1 c1))
      refine hK _ _ (fun _ => HF'.out) ?_
      clear hK K HF hc0 hf0 hc1 hf1
      have HF := hide HF'.out
      clear HF'
      generalize ((x2.setCell ⟨(w.heap.size + 1 + 1 + 1), 0, none⟩ (.bool s1)).setCell ⟨(w.heap.size + 1 + 1 + 1), 1, none⟩ (.slice m1 n1 c1)) = x3 at *
      refine Calm.one (i := 7) (l' := #[true, true, true, true, true, true, true, true, false]) (by kernel_rfl) rfl rfl rfl fun K hK => ?_
      have hc0 := P4.out.cell0
      have hc1 := P4.out.cell1
      have hf0 := P4.out.free 0
      have hf1 := P4.out.free 1
      go_simp
      have HF' := hide (And.intro (below_put HF.out.1 (show w.heap.size ≤ (w.heap.size + 1 + 1 + 1 + 1) by have hx := LTS.out; omega) (.bool s2) (.slice m2 n2 c2)) (And.intro (HF.out.2.1.other (C := (w.heap.size + 1 + 1 + 1 + 1)) (by have hx := LTS.out; omega) (.bool s2) (.slice m2 n2 c2)) (And.intro (HF.out.2.2.1.other (C := (w.heap.size + 1 + 1 + 1 + 1)) (by have hx := LTS.out; omega) (.bool s2) (.slice m2 n2 c2)) (And.intro (HF.out.2.2.2.1.other (C := (w.heap.size + 1 + 1 + 1 + 1)) (by have hx := LTS.out; omega) (.bool s2) (.slice m2 n2 c2)) (HF.out.2.2.2.2.other (C := (w.heap.size + 1 + 1 + 1 + 1)) (by have hx := LTS.out; omega) (.bool s2) (.slice m2 n2 c2))))))
      replace P1 := hide (P1.out.other (C := (w.heap.size + 1 + 1 + 1 + 1)) (by have hx := LTS.out; omega) (.bool s2) (.slice m2 n2 c2))
      replace P2 := hide (P2.out.other (C := (w.heap.size + 1 + 1 + 1 + 1)) (by have hx := LTS.out; omega) (.bool s2) (.slice m2 n2 c2))
      replace P3 := hide (P3.out.other (C := (w.heap.size + 1 + 1 + 1 + 1)) (by have hx := LTS.out; omega) (.bool s2) (.slice m2 n2 c2))
      replace I1 := hide (I1.out.keep (P4.out.keeps (by simp) (by simp) (.bool s2) (.slice m2 n2 c2)))
      replace I2 := hide (I2.out.keep (P4.out.keeps (by simp) (by simp) (.bool s2) (.slice m2 n2 c2)))
      replace I3 := hide (I3.out.keep (P4.out.keeps (by simp) (by simp) (.bool s2) (.slice m2 n2 c2)))
      replace I4 := hide (I4.out.keep (P4.out.keeps (by simp) (by simp) (.bool s2) (.slice m2 n2 c2)))
      replace P4 := hide (P4.out.put (.bool s2) (.slice m2 n2 c2))
      refine hK _ _ (fun _ => HF'.out) ?_
      clear hK K HF hc0 hf0 hc1 hf1
      have HF := hide HF'.out
      clear HF'
      generalize ((x3.setCell ⟨(w.heap.size + 1 + 1 + 1 + 1), 0, none⟩ (.bool s2)).setCell ⟨(w.heap.size + 1 + 1 + 1 + 1), 1, none⟩ (.slice m2 n2 c2)) = x4 at *
      refine Calm.take (i := 8) (v := ?_) (a' := ?_) (l' := #[true, true, true, true, true, true, true, true, true]) (d := some 6) rfl (by kernel_rfl) (by kernel_rfl) (by kernel_rfl) (by kernel_rfl) (fun _ _ _ h => h) HF.out rfl ?_ rfl rfl ?_ ?_
      rotate_left
      · intro w' hF; clear hF; go_simp; try rfl
      rotate_left
      · simp only [Act.put]; exact rfl
      refine Calm.done (by kernel_rfl) ?_
      replace HB := hide HF.out.1
      replace V1 := hide HF.out.2.1
      replace V2 := hide HF.out.2.2.1
      replace V3 := hide HF.out.2.2.2.1
      replace V4 := hide HF.out.2.2.2.2
      clear HF
      clear P0
      clear S3
      clear S4
      go_wp2
      refine ret_nums rfl (w.heap.size + 1) (w.heap.size + 1 + 1) (w.heap.size + 1 + 1 + 1) (w.heap.size + 1 + 1 + 1 + 1) _ _ _ _ _ _ _ _ _ rfl P1.out rfl P2.out rfl P3.out rfl P4.out rfl rfl ?_
      exact ⟨⟨_, _, _, _, _, _, _, _, true, rfl, I3.out, I4.out, I1.out, I2.out, fun _ => ⟨rfl, rfl, K1.out.szK LA.out, K2.out.szK LB.out⟩⟩, HB.out⟩

end Go.Proofs.Ytgkibmigbjjnnaa

namespace Go.Proofs.Ytgkibmigbjjnnaa
open Go.RowKit

theorem ret_rats {fn : Func} {R : Ending → World → Prop} {a : Act} {w : World} {p0 p1 k : Tmp} (h : fn.results = #[.cell p0 27, .cell p1 59, .tmp k]) (g0 g1 : Nat) (x00 x01 x02 x03 x10 x11 x12 x13 : Value) (b : Bool)
    (hp0 : a.tmps.getD p0 undef = .pointer (some ⟨g0, 0, none⟩)) (hg0 : Box4 w g0 x00 x01 x02 x03) (hp1 : a.tmps.getD p1 undef = .pointer (some ⟨g1, 0, none⟩)) (hg1 : BoxQ w g1 x10 x11 x12 x13) (hk : a.tmps.getD k undef = .bool b) (hd : a.defers = []) (hR : R (.returned (.tuple #[.agg #[x00, x01, x02, x03], .agg #[x10, x11, x12, x13], .bool b])) w) : bodyPost Try.prog fn R .ret a w := by
  refine bodyPost_ret ?_ hd hR
  have hp0' : a.tmps[p0]?.getD undef = .pointer (some ⟨g0, 0, none⟩) := by simpa using hp0
  have hp1' : a.tmps[p1]?.getD undef = .pointer (some ⟨g1, 0, none⟩) := by simpa using hp1
  have hk' : a.tmps[k]?.getD undef = .bool b := by simpa using hk
  simp [results, h, hp0', hp1', hk', asAddr, run_loadVar_row w g0 27 27 #[x00, x01, x02, x03] (0, 0) _ hg0 Try.underlying27 rfl Try.infoRat, run_loadVar_row w g1 59 59 #[x10, x11, x12, x13] (0, 0) _ hg1 Try.underlying59 rfl Try.infoQ]

/-- a fraction of the program, one of the document: the same, if it is said so -/
def Rat3 (e : Ending) (w : World) : Prop := ∃ s m n c s' m' n' c' t o p d t' o' p' d' ok, e = .returned (.tuple #[.agg #[.bool s, .slice m n c, .bool s', .slice m' n' c'], .agg #[.bool t, .slice o p d, .bool t', .slice o' p' d'], .bool ok]) ∧ (ok = true → ∃ q, RatAt w (.agg #[.bool s, .slice m n c, .bool s', .slice m' n' c']) q ∧ RQ w (.agg #[.bool t, .slice o p d, .bool t', .slice o' p' d']) q ∧ SzR 300 q)

set_option maxRecDepth 100000 in
set_option maxHeartbeats 8000000 in
theorem rat3_any (a b : ByteArray) (w : World) (la : a.size ≤ 300) (lb : b.size ≤ 300) :
    Calls Try.prog 25 #[.agg #[.string a, .string b]] w fun e w' => Rat3 e w' ∧ Below w.heap.size w w' := by
  have LA := hide la
  have LB := hide lb
  clear la lb
  have P0 := BoxF.new w (.string a) (.string b)
  replace P0 := P0.step (below_alloc _ (.cells #[.bool false, .slice none 0 0, .bool false, .slice none 0 0] 27))
  replace P0 := P0.step (below_alloc _ (.cells #[.bool false, .slice none 0 0, .bool false, .slice none 0 0] 59))
  replace P0 := hide P0
  have P1 := Box4.new (w.alloc (.cells #[.string a, .string b] 55)) (.bool false) (.slice none 0 0) (.bool false) (.slice none 0 0)
  simp only [World.size_alloc] at P1
  replace P1 := P1.step (below_alloc _ (.cells #[.bool false, .slice none 0 0, .bool false, .slice none 0 0] 59))
  replace P1 := hide P1
  have P2 := BoxQ.new ((w.alloc (.cells #[.string a, .string b] 55)).alloc (.cells #[.bool false, .slice none 0 0, .bool false, .slice none 0 0] 27)) (.bool false) (.slice none 0 0) (.bool false) (.slice none 0 0)
  simp only [World.size_alloc] at P2
  replace P2 := hide P2
  have HB := below_alloc w (.cells #[.string a, .string b] 55)
  replace HB := HB.trans ((below_alloc _ (.cells #[.bool false, .slice none 0 0, .bool false, .slice none 0 0] 27)).mono (by simp only [World.size_alloc]; omega))
  replace HB := HB.trans ((below_alloc _ (.cells #[.bool false, .slice none 0 0, .bool false, .slice none 0 0] 59)).mono (by simp only [World.size_alloc]; omega))
  replace HB := hide HB
  go_enter Try.func25, Try.ntmps25
  go_wp2_with fail
  generalize (((w.alloc (.cells #[.string a, .string b] 55)).alloc (.cells #[.bool false, .slice none 0 0, .bool false, .slice none 0 0] 27)).alloc (.cells #[.bool false, .slice none 0 0, .bool false, .slice none 0 0] 59)) = w0 at *
  refine (numbers_any a b _ LA.out LB.out).mono ?_
  rintro e u1 ⟨⟨v1, v2, v3, v4, z1, z2, z3, z4, ok, rfl, k1, k2, k3, k4, hk⟩, hb⟩
  have HK := hide hk
  obtain ⟨s1, m1, n1, c1, rfl, j1⟩ := k1.cells
  have I1 := hide j1
  obtain ⟨s2, m2, n2, c2, rfl, j2⟩ := k2.cells
  have I2 := hide j2
  obtain ⟨s3, m3, n3, c3, rfl, j3⟩ := k3.cells
  have I3 := hide j3
  obtain ⟨s4, m4, n4, c4, rfl, j4⟩ := k4.cells
  have I4 := hide j4
  replace P0 := hide (P0.out.step (hb))
  replace P1 := hide (P1.out.step (hb))
  replace P2 := hide (P2.out.step (hb))
  replace HB := hide (HB.out.trans ((hb).mono HB.out.size))
  clear hb hk k1 j1 k2 j2 k3 j3 k4 j4
  go_upto_region 2 with fail
  have hp := P2.out.lt
  have V1 := Box.new u1 (.bool s1) (.slice m1 n1 c1)
  replace V1 := V1.step (below_alloc _ (.cells #[.bool s2, .slice m2 n2 c2] 25))
  replace V1 := V1.step (below_alloc _ (.cells #[.bool s3, .slice m3 n3 c3] 57))
  replace V1 := V1.step (below_alloc _ (.cells #[.bool s4, .slice m4 n4 c4] 57))
  replace V1 := hide V1
  have V2 := Box.new (u1.alloc (.cells #[.bool s1, .slice m1 n1 c1] 25)) (.bool s2) (.slice m2 n2 c2)
  simp only [World.size_alloc] at V2
  replace V2 := V2.step (below_alloc _ (.cells #[.bool s3, .slice m3 n3 c3] 57))
  replace V2 := V2.step (below_alloc _ (.cells #[.bool s4, .slice m4 n4 c4] 57))
  replace V2 := hide V2
  have V3 := BoxR.new ((u1.alloc (.cells #[.bool s1, .slice m1 n1 c1] 25)).alloc (.cells #[.bool s2, .slice m2 n2 c2] 25)) (.bool s3) (.slice m3 n3 c3)
  simp only [World.size_alloc] at V3
  replace V3 := V3.step (below_alloc _ (.cells #[.bool s4, .slice m4 n4 c4] 57))
  replace V3 := hide V3
  have V4 := BoxR.new (((u1.alloc (.cells #[.bool s1, .slice m1 n1 c1] 25)).alloc (.cells #[.bool s2, .slice m2 n2 c2] 25)).alloc (.cells #[.bool s3, .slice m3 n3 c3] 57)) (.bool s4) (.slice m4 n4 c4)
  simp only [World.size_alloc] at V4
  replace V4 := hide V4
  have al := below_alloc u1 (.cells #[.bool s1, .slice m1 n1 c1] 25)
  replace al := al.trans ((below_alloc _ (.cells #[.bool s2, .slice m2 n2 c2] 25)).mono (by simp only [World.size_alloc]; omega))
  replace al := al.trans ((below_alloc _ (.cells #[.bool s3, .slice m3 n3 c3] 57)).mono (by simp only [World.size_alloc]; omega))
  replace al := al.trans ((below_alloc _ (.cells #[.bool s4, .slice m4 n4 c4] 57)).mono (by simp only [World.size_alloc]; omega))
  replace P0 := hide (P0.out.step (al))
  replace P1 := hide (P1.out.step (al))
  replace P2 := hide (P2.out.step (al))
  replace HB := hide (HB.out.trans ((al).mono HB.out.size))
  replace I1 := hide (I1.out.below (al))
  replace I2 := hide (I2.out.below (al))
  replace I3 := hide (I3.out.below (al))
  replace I4 := hide (I4.out.below (al))
  clear al
  generalize ((((u1.alloc (.cells #[.bool s1, .slice m1 n1 c1] 25)).alloc (.cells #[.bool s2, .slice m2 n2 c2] 25)).alloc (.cells #[.bool s3, .slice m3 n3 c3] 57)).alloc (.cells #[.bool s4, .slice m4 n4 c4] 57)) = u1a at *
  generalize u1.heap.size = g1 at *
  have LTS := hide hp
  clear hp
  cases ok with
  | false =>
    clear HK I1 I2 I3 I4
    have hP10 := P1.out.cell0
    have hP11 := P1.out.cell1
    have hP12 := P1.out.cell2
    have hP13 := P1.out.cell3
    have fP10 := P1.out.free 0
    have fP11 := P1.out.free 1
    have fP12 := P1.out.free 2
    have fP13 := P1.out.free 3
    have hP20 := P2.out.cell0
    have hP21 := P2.out.cell1
    have hP22 := P2.out.cell2
    have hP23 := P2.out.cell3
    have fP20 := P2.out.free 0
    have fP21 := P2.out.free 1
    have fP22 := P2.out.free 2
    have fP23 := P2.out.free 3
    go_wp2
    refine ret_rats rfl (w.heap.size + 1) (w.heap.size + 1 + 1) _ _ _ _ _ _ _ _ _ rfl ((P1.out.put _ _ _ _).other4 (by omega) _ _ _ _) rfl ((P2.out.other4 (by omega) _ _ _ _).put _ _ _ _) rfl rfl ?_
    exact ⟨⟨_, _, _, _, _, _, _, _, _, _, _, _, _, _, _, _, false, rfl, fun h => by cases h⟩, below_put4 (below_put4 HB.out (by omega) _ _ _ _) (by omega) _ _ _ _⟩
  | true =>
    obtain ⟨rfl, rfl, S3, S4⟩ := HK.out rfl
    have Z3 := hide S3
    have Z4 := hide S4
    clear HK S3 S4
    have hV40 := V4.out.cell0
    have hV41 := V4.out.cell1
    go_wp2_with fail
    clear hV40 hV41
    refine (rsign_any _ z2 _ I4.out).mono ?_
    rintro e u2 ⟨he, hb⟩
    replace P0 := hide (P0.out.step (hb))
    replace P1 := hide (P1.out.step (hb))
    replace P2 := hide (P2.out.step (hb))
    replace HB := hide (HB.out.trans ((hb).mono HB.out.size))
    replace I1 := hide (I1.out.below (hb))
    replace I2 := hide (I2.out.below (hb))
    replace I3 := hide (I3.out.below (hb))
    replace I4 := hide (I4.out.below (hb))
    replace V1 := hide (V1.out.step (hb))
    replace V2 := hide (V2.out.step (hb))
    replace V3 := hide (V3.out.step (hb))
    replace V4 := hide (V4.out.step (hb))
    clear hb
    by_cases hz : z2 = 0
    · subst hz
      subst he
      clear I1 I2 I3 I4 Z3 Z4
      have hP10 := P1.out.cell0
      have hP11 := P1.out.cell1
      have hP12 := P1.out.cell2
      have hP13 := P1.out.cell3
      have fP10 := P1.out.free 0
      have fP11 := P1.out.free 1
      have fP12 := P1.out.free 2
      have fP13 := P1.out.free 3
      have hP20 := P2.out.cell0
      have hP21 := P2.out.cell1
      have hP22 := P2.out.cell2
      have hP23 := P2.out.cell3
      have fP20 := P2.out.free 0
      have fP21 := P2.out.free 1
      have fP22 := P2.out.free 2
      have fP23 := P2.out.free 3
      go_wp2
      refine ret_rats rfl (w.heap.size + 1) (w.heap.size + 1 + 1) _ _ _ _ _ _ _ _ _ rfl ((P1.out.put _ _ _ _).other4 (by omega) _ _ _ _) rfl ((P2.out.other4 (by omega) _ _ _ _).put _ _ _ _) rfl rfl ?_
      exact ⟨⟨_, _, _, _, _, _, _, _, _, _, _, _, _, _, _, _, false, rfl, fun h => by cases h⟩, below_put4 (below_put4 HB.out (by omega) _ _ _ _) (by omega) _ _ _ _⟩
    · have HZ := hide hz
      have SG : (sgnI z2 == 0) = false := by rw [beq_eq_false_iff_ne]; unfold sgnI; split <;> (try split) <;> omega
      generalize sgnI z2 = sd at *
      subst he
      clear hz
      have hV10 := V1.out.cell0
      have hV11 := V1.out.cell1
      have hV20 := V2.out.cell0
      have hV21 := V2.out.cell1
      go_wp2_with fail
      clear SG
      clear hV10 hV11
      clear hV20 hV21
      refine (rtmake_any _ _ z1 z2 _ I1.out I2.out (SzI.len Z3.out (by decide)) (SzI.len Z4.out (by decide)) HZ.out).mono ?_
      rintro e u3 ⟨v, rfl, kx, hb⟩
      obtain ⟨s5, m5, n5, c5, t5, o5, p5, d5, rfl, ky⟩ := kx.cells
      replace P0 := hide (P0.out.step (hb))
      replace P1 := hide (P1.out.step (hb))
      replace P2 := hide (P2.out.step (hb))
      replace HB := hide (HB.out.trans ((hb).mono HB.out.size))
      replace I1 := hide (I1.out.below (hb))
      replace I2 := hide (I2.out.below (hb))
      replace I3 := hide (I3.out.below (hb))
      replace I4 := hide (I4.out.below (hb))
      replace V1 := hide (V1.out.step (hb))
      replace V2 := hide (V2.out.step (hb))
      replace V3 := hide (V3.out.step (hb))
      replace V4 := hide (V4.out.step (hb))
      have I5 := hide (ky)
      clear hb kx ky
      go_upto_region 5 with fail
      have hp := P2.out.lt
      have al := below_alloc u3 (.cells #[.bool s5, .slice m5 n5 c5, .bool t5, .slice o5 p5 d5] 27)
      replace P0 := hide (P0.out.step (al))
      replace P1 := hide (P1.out.step (al))
      replace P2 := hide (P2.out.step (al))
      replace HB := hide (HB.out.trans ((al).mono HB.out.size))
      replace I1 := hide (I1.out.below (al))
      replace I2 := hide (I2.out.below (al))
      replace I3 := hide (I3.out.below (al))
      replace I4 := hide (I4.out.below (al))
      replace V1 := hide (V1.out.step (al))
      replace V2 := hide (V2.out.step (al))
      replace V3 := hide (V3.out.step (al))
      replace V4 := hide (V4.out.step (al))
      replace I5 := hide (I5.out.below (al))
      have V5 := hide (Box4.new u3 (.bool s5) (.slice m5 n5 c5) (.bool t5) (.slice o5 p5 d5))
      clear al
      generalize u3.alloc (.cells #[.bool s5, .slice m5 n5 c5, .bool t5, .slice o5 p5 d5] 27) = u3a at *
      generalize u3.heap.size = g5 at *
      have LTS' := hide (And.intro LTS.out hp)
      clear LTS hp
      have LTS := hide LTS'.out
      clear LTS'
      replace P1 := hide P1.out.drew
      replace P2 := hide P2.out.drew
      refine wp_calm (fun w' => Below w.heap.size w w' ∧ Box4 w' g5 (.bool s5) (.slice m5 n5 c5) (.bool t5) (.slice o5 p5 d5) ∧ BoxR w' (g1 + 1 + 1) (.bool s3) (.slice m3 n3 c3) ∧ BoxR w' (g1 + 1 + 1 + 1) (.bool s4) (.slice m4 n4 c4) ∧ RInt w' (.agg #[.bool s3, .slice m3 n3 c3]) z1 ∧ RInt w' (.agg #[.bool s4, .slice m4 n4 c4]) z2 ∧ RatAt w' (.agg #[.bool s5, .slice m5 n5 c5, .bool t5, .slice o5 p5 d5]) (Rat.divInt z1 z2)) (fun _ => true) 7 #[false, false, false, false, false, false, false] (by kernel_rfl) rfl rfl ?_
      have HF := hide (And.intro (HB.out.drew) (And.intro (V5.out.drew) (And.intro (V3.out.drew) (And.intro (V4.out.drew) (And.intro (I3.out.drew) (And.intro (I4.out.drew) (I5.out.drew)))))))
      generalize u3a.drew = u3ad at *
      refine Calm.take (i := 0) (v := ?_) (a' := ?_) (l' := #[true, false, false, false, false, false, false]) (d := some 35) rfl (by kernel_rfl) (by kernel_rfl) (by kernel_rfl) (by kernel_rfl) (fun _ _ _ h => h) HF.out rfl ?_ rfl rfl ?_ ?_
      rotate_left
      · intro w' hF; have f10 := hF.2.1.cell0; have f11 := hF.2.1.cell1; have f12 := hF.2.1.cell2; have f13 := hF.2.1.cell3; have f20 := hF.2.2.1.cell0; have f21 := hF.2.2.1.cell1; have f30 := hF.2.2.2.1.cell0; have f31 := hF.2.2.2.1.cell1; clear hF; go_simp; try rfl
      rotate_left
      · simp only [Act.put]; exact rfl
      refine Calm.take (i := 1) (v := ?_) (a' := ?_) (l' := #[true, true, false, false, false, false, false]) (d := some 36) rfl (by kernel_rfl) (by kernel_rfl) (by kernel_rfl) (by kernel_rfl) (fun _ _ _ h => h) HF.out rfl ?_ rfl rfl ?_ ?_
      rotate_left
      · intro w' hF; have f10 := hF.2.1.cell0; have f11 := hF.2.1.cell1; have f12 := hF.2.1.cell2; have f13 := hF.2.1.cell3; have f20 := hF.2.2.1.cell0; have f21 := hF.2.2.1.cell1; have f30 := hF.2.2.2.1.cell0; have f31 := hF.2.2.2.1.cell1; clear hF; go_simp; try rfl
      rotate_left
      · simp only [Act.put]; exact rfl
      refine Calm.take (i := 2) (v := ?_) (a' := ?_) (l' := #[true, true, true, false, false, false, false]) (d := some 37) rfl (by kernel_rfl) (by kernel_rfl) (by kernel_rfl) (by kernel_rfl) (fun _ _ _ h => h) HF.out rfl ?_ rfl rfl ?_ ?_
      rotate_left
      · intro w' hF; have f10 := hF.2.1.cell0; have f11 := hF.2.1.cell1; have f12 := hF.2.1.cell2; have f13 := hF.2.1.cell3; have f20 := hF.2.2.1.cell0; have f21 := hF.2.2.1.cell1; have f30 := hF.2.2.2.1.cell0; have f31 := hF.2.2.2.1.cell1; clear hF; go_simp; try rfl
      rotate_left
      · simp only [Act.put]; exact rfl
      refine Calm.one (i := 3) (l' := #[true, true, true, true, false, false, false]) (by kernel_rfl) rfl rfl rfl fun K hK => ?_
      go_simp
      refine (r3make_any _ _ z1 z2 _ HF.out.2.2.2.2.1 HF.out.2.2.2.2.2.1 300 300 Z3.out Z4.out (by decide) (by decide) HZ.out).mono ?_
      rintro e u6 ⟨v, rfl, n, hb⟩
      obtain ⟨s6, m6, n6, c6, t6, o6, p6, d6, rfl, n⟩ := n.cells
      replace P1 := hide (P1.out.step (hb))
      replace P2 := hide (P2.out.step (hb))
      have HF' := hide (And.intro (HF.out.1.trans ((hb).mono HF.out.1.size)) (And.intro (HF.out.2.1.step (hb)) (And.intro (HF.out.2.2.1.step (hb)) (And.intro (HF.out.2.2.2.1.step (hb)) (And.intro (HF.out.2.2.2.2.1.below (hb)) (And.intro (HF.out.2.2.2.2.2.1.below (hb)) (HF.out.2.2.2.2.2.2.below (hb))))))))
      have TR := hide (n)
      refine hK _ _ (fun _ => HF'.out) ?_
      clear hK K HF hb n
      have HF := hide HF'.out
      clear HF'
      refine Calm.one (i := 4) (l' := #[true, true, true, true, true, false, false]) (by kernel_rfl) rfl rfl rfl fun K hK => ?_
      have hc0 := P1.out.cell0
      have hc1 := P1.out.cell1
      have hc2 := P1.out.cell2
      have hc3 := P1.out.cell3
      have hf0 := P1.out.free 0
      have hf1 := P1.out.free 1
      have hf2 := P1.out.free 2
      have hf3 := P1.out.free 3
      go_simp
      have HF' := hide (And.intro (below_put4 HF.out.1 (show w.heap.size ≤ (w.heap.size + 1) by have hx := LTS.out; omega) (.bool s5) (.slice m5 n5 c5) (.bool t5) (.slice o5 p5 d5)) (And.intro (HF.out.2.1.other4 (C := (w.heap.size + 1)) (by have hx := LTS.out; omega) (.bool s5) (.slice m5 n5 c5) (.bool t5) (.slice o5 p5 d5)) (And.intro (HF.out.2.2.1.other4 (C := (w.heap.size + 1)) (by have hx := LTS.out; omega) (.bool s5) (.slice m5 n5 c5) (.bool t5) (.slice o5 p5 d5)) (And.intro (HF.out.2.2.2.1.other4 (C := (w.heap.size + 1)) (by have hx := LTS.out; omega) (.bool s5) (.slice m5 n5 c5) (.bool t5) (.slice o5 p5 d5)) (And.intro (HF.out.2.2.2.2.1.keep (P1.out.keeps (by simp) (by simp) (by simp) (by simp) (.bool s5) (.slice m5 n5 c5) (.bool t5) (.slice o5 p5 d5))) (And.intro (HF.out.2.2.2.2.2.1.keep (P1.out.keeps (by simp) (by simp) (by simp) (by simp) (.bool s5) (.slice m5 n5 c5) (.bool t5) (.slice o5 p5 d5))) (HF.out.2.2.2.2.2.2.keep (P1.out.keeps (by simp) (by simp) (by simp) (by simp) (.bool s5) (.slice m5 n5 c5) (.bool t5) (.slice o5 p5 d5)))))))))
      replace P2 := hide (P2.out.other4 (C := (w.heap.size + 1)) (by have hx := LTS.out; omega) (.bool s5) (.slice m5 n5 c5) (.bool t5) (.slice o5 p5 d5))
      replace TR := hide (TR.out.keep (P1.out.keeps (by simp) (by simp) (by simp) (by simp) (.bool s5) (.slice m5 n5 c5) (.bool t5) (.slice o5 p5 d5)))
      replace P1 := hide (P1.out.put (.bool s5) (.slice m5 n5 c5) (.bool t5) (.slice o5 p5 d5))
      refine hK _ _ (fun _ => HF'.out) ?_
      clear hK K HF hc0 hf0 hc1 hf1 hc2 hf2 hc3 hf3
      have HF := hide HF'.out
      clear HF'
      generalize ((((u6.setCell ⟨(w.heap.size + 1), 0, none⟩ (.bool s5)).setCell ⟨(w.heap.size + 1), 1, none⟩ (.slice m5 n5 c5)).setCell ⟨(w.heap.size + 1), 2, none⟩ (.bool t5)).setCell ⟨(w.heap.size + 1), 3, none⟩ (.slice o5 p5 d5)) = x1 at *
      refine Calm.one (i := 5) (l' := #[true, true, true, true, true, true, false]) (by kernel_rfl) rfl rfl rfl fun K hK => ?_
      have hc0 := P2.out.cell0
      have hc1 := P2.out.cell1
      have hc2 := P2.out.cell2
      have hc3 := P2.out.cell3
      have hf0 := P2.out.free 0
      have hf1 := P2.out.free 1
      have hf2 := P2.out.free 2
      have hf3 := P2.out.free 3
      go_simp
      have HF' := hide (And.intro (below_put4 HF.out.1 (show w.heap.size ≤ (w.heap.size + 1 + 1) by have hx := LTS.out; omega) (.bool s6) (.slice m6 n6 c6) (.bool t6) (.slice o6 p6 d6)) (And.intro (HF.out.2.1.other4 (C := (w.heap.size + 1 + 1)) (by have hx := LTS.out; omega) (.bool s6) (.slice m6 n6 c6) (.bool t6) (.slice o6 p6 d6)) (And.intro (HF.out.2.2.1.other4 (C := (w.heap.size + 1 + 1)) (by have hx := LTS.out; omega) (.bool s6) (.slice m6 n6 c6) (.bool t6) (.slice o6 p6 d6)) (And.intro (HF.out.2.2.2.1.other4 (C := (w.heap.size + 1 + 1)) (by have hx := LTS.out; omega) (.bool s6) (.slice m6 n6 c6) (.bool t6) (.slice o6 p6 d6)) (And.intro (HF.out.2.2.2.2.1.keep (P2.out.keeps (by simp) (by simp) (by simp) (by simp) (.bool s6) (.slice m6 n6 c6) (.bool t6) (.slice o6 p6 d6))) (And.intro (HF.out.2.2.2.2.2.1.keep (P2.out.keeps (by simp) (by simp) (by simp) (by simp) (.bool s6) (.slice m6 n6 c6) (.bool t6) (.slice o6 p6 d6))) (HF.out.2.2.2.2.2.2.keep (P2.out.keeps (by simp) (by simp) (by simp) (by simp) (.bool s6) (.slice m6 n6 c6) (.bool t6) (.slice o6 p6 d6)))))))))
      replace P1 := hide (P1.out.other4 (C := (w.heap.size + 1 + 1)) (by have hx := LTS.out; omega) (.bool s6) (.slice m6 n6 c6) (.bool t6) (.slice o6 p6 d6))
      replace TR := hide (TR.out.keep (P2.out.keeps (by simp) (by simp) (by simp) (by simp) (.bool s6) (.slice m6 n6 c6) (.bool t6) (.slice o6 p6 d6)))
      replace P2 := hide (P2.out.put (.bool s6) (.slice m6 n6 c6) (.bool t6) (.slice o6 p6 d6))
      refine hK _ _ (fun _ => HF'.out) ?_
      clear hK K HF hc0 hf0 hc1 hf1 hc2 hf2 hc3 hf3
      have HF := hide HF'.out
      clear HF'
      generalize ((((x1.setCell ⟨(w.heap.size + 1 + 1), 0, none⟩ (.bool s6)).setCell ⟨(w.heap.size + 1 + 1), 1, none⟩ (.slice m6 n6 c6)).setCell ⟨(w.heap.size + 1 + 1), 2, none⟩ (.bool t6)).setCell ⟨(w.heap.size + 1 + 1), 3, none⟩ (.slice o6 p6 d6)) = x2 at *
      refine Calm.take (i := 6) (v := ?_) (a' := ?_) (l' := #[true, true, true, true, true, true, true]) (d := some 4) rfl (by kernel_rfl) (by kernel_rfl) (by kernel_rfl) (by kernel_rfl) (fun _ _ _ h => h) HF.out rfl ?_ rfl rfl ?_ ?_
      rotate_left
      · intro w' hF; clear hF; go_simp; try rfl
      rotate_left
      · simp only [Act.put]; exact rfl
      refine Calm.done (by kernel_rfl) ?_
      replace HB := hide HF.out.1
      replace V5 := hide HF.out.2.1
      replace V3 := hide HF.out.2.2.1
      replace V4 := hide HF.out.2.2.2.1
      replace I3 := hide HF.out.2.2.2.2.1
      replace I4 := hide HF.out.2.2.2.2.2.1
      replace I5 := hide HF.out.2.2.2.2.2.2
      clear HF
      clear P0
      clear I1
      clear I2
      clear V1
      clear V2
      go_wp2
      refine ret_rats rfl (w.heap.size + 1) (w.heap.size + 1 + 1) _ _ _ _ _ _ _ _ _ rfl P1.out rfl P2.out rfl rfl ?_
      exact ⟨⟨_, _, _, _, _, _, _, _, _, _, _, _, _, _, _, _, true, rfl, fun _ => ⟨_, I5.out, TR.out, ⟨(SzR.divInt HZ.out Z3.out Z4.out).1, (SzR.divInt HZ.out Z3.out Z4.out).2⟩⟩⟩, HB.out⟩

end Go.Proofs.Ytgkibmigbjjnnaa
