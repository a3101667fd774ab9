/- limb.Add answers a new list: the sum, without high noughts. -/
import Derived.Test.YtgkibmigbjjnnaaNorm
namespace Go.Proofs.Ytgkibmigbjjnnaa
open Go.RowKit

/-- a row in the making: what is filled, and noughts -/
def fil (acc : List Nat) (r : Nat) : List Nat := acc ++ List.replicate r 0
theorem fil_length (acc : List Nat) (r : Nat) : (fil acc r).length = acc.length + r := by simp [fil]
theorem fil_set (acc : List Nat) (r x : Nat) : (fil acc (r + 1)).set acc.length x = fil (acc ++ [x]) r := by
  simp [fil, List.replicate_succ]
theorem fil_val (acc : List Nat) (r : Nat) : val (fil acc r) = val acc := by simp [fil, val_append, val_replicate]
theorem fil_ok {acc : List Nat} (h : Ok acc) (r : Nat) : Ok (fil acc r) := h.append (fun x hx => by rw [List.eq_of_mem_replicate hx]; exact BB_pos)
theorem made_fil (n : Nat) : (madeCells #[.int .u32 0] n).toList = ints (fil [] n) := by
  rw [toList_madeCells_one]; simp [fil, ints]

/-- the row that a loop fills: at block g, n limbs -/
def Row (w : World) (base g n : Nat) (xs : List Nat) : Prop := w.ownsRow base 84 1 (.slice (some ⟨g, 0, none⟩) n n) n (ints xs)

theorem Row.cell {w : World} {base g n : Nat} {xs : List Nat} (h : Row w base g n xs) (hl : xs.length = n) (i : Nat) (hi : i < n) : w.cell? ⟨g, i, none⟩ = some (.int .u32 (lm xs i : Nat)) := by
  rw [World.ownsRow.cellAt h i (by omega), ints_get _ _ (by omega)]
theorem Row.free {w : World} {base g n : Nat} {xs : List Nat} (h : Row w base g n xs) (i : Nat) : w.frozen? ⟨g, i, none⟩ = false := World.ownsRow.frozenAt h i
theorem Row.set {w : World} {base g n : Nat} {xs : List Nat} (h : Row w base g n xs) (i x : Nat) : Row (w.setCell ⟨g, i, none⟩ (.int .u32 (x : Nat))) base g n (xs.set i x) := by
  have := (World.ownsRow.stored h i (.int .u32 (x : Nat))).1
  rw [ints_set] at this; exact this
theorem Row.nums {w : World} {base g n : Nat} {xs : List Nat} (h : Row w base g n xs) (hl : xs.length = n) (ho : Ok xs) : Nums w (.slice (some ⟨g, 0, none⟩) n n) xs := nums_of_row ho hl h

theorem add_math {a b c acc K : Nat} {la lb : Nat} (h : acc + K * c = a + b) :
    (acc + K * ((c + la + lb) % BB)) + K * BB * ((c + la + lb) / BB) = (a + K * la) + (b + K * lb) := by
  have e : K * ((c + la + lb) % BB) + K * BB * ((c + la + lb) / BB) = K * (c + la + lb) := by
    rw [Nat.mul_assoc, ← Nat.mul_add, Nat.mod_add_div]
  have e2 : K * (c + la + lb) = K * c + K * la + K * lb := by rw [Nat.mul_add, Nat.mul_add]
  omega

/-- a sum's state behind k limbs -/
structure AddAt (LA LB : List Nat) (k c : Nat) (acc : List Nat) : Prop where
  len : acc.length = k
  ok : Ok acc
  c1 : c ≤ 1
  sum : val acc + BB ^ k * c = val (LA.take k) + val (LB.take k)

theorem AddAt.zero (LA LB : List Nat) : AddAt LA LB 0 0 [] := ⟨rfl, Ok.nil, by omega, by simp [val]⟩

theorem take_succ_any (xs : List Nat) (k : Nat) : val (xs.take (k + 1)) = val (xs.take k) + BB ^ k * lm xs k := by
  by_cases h : k < xs.length
  · exact take_succ_val xs k h
  · rw [List.take_of_length_le (by omega), List.take_of_length_le (by omega), lm_over _ _ (by omega)]; simp

theorem AddAt.step {LA LB : List Nat} {k c : Nat} {acc : List Nat} (h : AddAt LA LB k c acc) (hA : Ok LA) (hB : Ok LB) :
    AddAt LA LB (k + 1) ((c + lm LA k + lm LB k) / BB) (acc ++ [(c + lm LA k + lm LB k) % BB]) := by
  have h1 := hA.at k
  have h2 := hB.at k
  have h3 := h.c1
  refine ⟨by simp [h.len], h.ok.append (Ok.cons (Nat.mod_lt _ BB_pos) Ok.nil), ?_, ?_⟩
  · have : (c + lm LA k + lm LB k) / BB < 2 := by rw [Nat.div_lt_iff_lt_mul BB_pos]; omega
    omega
  · rw [take_succ_any, take_succ_any, val_append, h.len, Nat.pow_succ]
    simp only [val, Nat.mul_zero, Nat.add_zero]
    exact add_math h.sum

theorem add_next {w wr : World} {g k c : Nat} {acc LA LB : List Nat} {s : Int} (hat : AddAt LA LB k c acc) (hA : Ok LA) (hB : Ok LB) (hlt : k < LA.length) (hg : w.heap.size ≤ g)
    (hrow : Row wr w.heap.size g (LA.length + 1) (fil acc (LA.length + 1 - k))) (hbel : Below w.heap.size w wr) (hs : s = ((c + lm LA k + lm LB k : Nat) : Int)) :
    ∃ (k' c' : Nat) (acc' : List Nat), k' ≤ LA.length ∧ Value.int .i64 (↑k + 1) = .int .i64 k' ∧ Value.int .u64 (s / 4294967296) = .int .u64 c' ∧ AddAt LA LB k' c' acc' ∧
      Row (wr.setCell ⟨g, k, none⟩ (.int .u32 (s % 4294967296))) w.heap.size g (LA.length + 1) (fil acc' (LA.length + 1 - k')) ∧ Below w.heap.size w (wr.setCell ⟨g, k, none⟩ (.int .u32 (s % 4294967296))) := by
  have e1 : s / 4294967296 = (((c + lm LA k + lm LB k) / BB : Nat) : Int) := by subst hs; unfold BB; omega
  have e2 : s % 4294967296 = (((c + lm LA k + lm LB k) % BB : Nat) : Int) := by subst hs; unfold BB; omega
  refine ⟨k + 1, _, _, hlt, by go_num, by rw [e1], hat.step hA hB, ?_, hbel.setCell hg _⟩
  rw [e2]
  have := hrow.set k ((c + lm LA k + lm LB k) % BB)
  have hr : LA.length + 1 - k = (LA.length + 1 - (k + 1)) + 1 := by omega
  rw [hr] at this
  have hl := hat.len
  subst hl
  rw [fil_set] at this
  exact this

theorem add_last {w wr : World} {g c : Nat} {acc LA LB : List Nat} (hat : AddAt LA LB LA.length c acc) (hle : LB.length ≤ LA.length) (hg : w.heap.size ≤ g)
    (hrow : Row wr w.heap.size g (LA.length + 1) (fil acc (LA.length + 1 - LA.length))) (hbel : Below w.heap.size w wr) :
    ∃ zs, val zs = val LA + val LB ∧ Nums (wr.setCell ⟨g, LA.length, none⟩ (.int .u32 (c : Nat))) (.slice (some ⟨g, 0, none⟩) (LA.length + 1) (LA.length + 1)) zs ∧ zs.length = LA.length + 1 ∧ Below w.heap.size w (wr.setCell ⟨g, LA.length, none⟩ (.int .u32 (c : Nat))) := by
  have hc := hat.c1
  have hl := hat.len
  have hsum := hat.sum
  rw [List.take_length, List.take_of_length_le hle] at hsum
  have := hrow.set LA.length c
  rw [show LA.length + 1 - LA.length = 0 + 1 from by omega] at this
  have e : (fil acc (0 + 1)).set LA.length c = fil (acc ++ [c]) 0 := by rw [← hl]; exact fil_set acc 0 c
  rw [e] at this
  have hln : (fil (acc ++ [c]) 0).length = LA.length + 1 := by rw [fil_length]; simp [hl]
  refine ⟨fil (acc ++ [c]) 0, ?_, this.nums hln (fil_ok (hat.ok.append (Ok.cons (by unfold BB; omega) Ok.nil)) 0), hln, hbel.setCell hg _⟩
  rw [fil_val, val_append, hl]; simp only [val, Nat.mul_zero, Nat.add_zero]; exact hsum

set_option maxRecDepth 100000 in
set_option maxHeartbeats 1000000 in
theorem add_any (v1 v2 : Value) (xs ys : List Nat) (w : World) (h1 : Nums w v1 xs) (h2 : Nums w v2 ys) (b1 : xs.length ≤ 1000000000) (b2 : ys.length ≤ 1000000000) :
    Calls Try.prog 78 #[v1, v2] w fun e w' => ∃ v', e = .returned v' ∧ Nums w' v' (lim (val xs + val ys)) ∧ Below w.heap.size w w' := by
  obtain ⟨i0, hi, hz0, hz1, hz2⟩ := info_parts Try.info84
  have HN2 : Hid (Nums w v2 ys) := h2
  have le1 := lim_val_length h1.ok
  have le2 := lim_val_length h2.ok
  go_enter Try.func78, Try.ntmps78
  go_wp2_with fail
  refine (trim_any v1 xs _ h1).mono ?_
  rintro e w1 ⟨v1', rfl, rfl, hN1, _⟩
  go_wp2_with fail
  refine (trim_any v2 ys _ HN2.out).mono ?_
  rintro e w1 ⟨v2', rfl, rfl, hN2, _⟩
  clear h1 h2 HN2
  have HM1 : Hid (val (lim (val xs)) = val xs) := val_lim _
  have HM2 : Hid (val (lim (val ys)) = val ys) := val_lim _
  obtain ⟨ho1, a1, c1, rfl, hl1, hm1, hc1⟩ := hN1
  obtain ⟨ho2, a2, c2, rfl, hl2, hm2, hc2⟩ := hN2
  have HC1 : Hid (lim (val xs) ≠ [] → ∃ b off, a1 = some ⟨b, off, none⟩ ∧ ∀ i, i < (lim (val xs)).length → w.cell? ⟨b, off + i, none⟩ = some (.int .u32 (lm (lim (val xs)) i : Nat))) := hc1
  have HC2 : Hid (lim (val ys) ≠ [] → ∃ b off, a2 = some ⟨b, off, none⟩ ∧ ∀ i, i < (lim (val ys)).length → w.cell? ⟨b, off + i, none⟩ = some (.int .u32 (lm (lim (val ys)) i : Nat))) := hc2
  clear hc1 hc2
  unfold maxLen at hm1 hm2
  generalize lim (val xs) = L1 at *
  generalize lim (val ys) = L2 at *
  by_cases hA : L1.length < L2.length
  · go_wp2_with (at_make; refine wpList_make_full _ rfl _ _ 23 rfl w.heap.size 84 i0 (.int .u32 0) 1 Try.underlying23 hi hz0 hz1 _ _ _ _ (L2.length + 1) rfl rfl ?_ ?_ ?_ ?_ (Nat.le_refl _) ?_)
    all_goals try omega
    all_goals try (rw [hz2]; omega)
    all_goals try (unfold maxLen; omega)
    intro w1 hown hgrow
    have hbel : Below w.heap.size w w1 := (Below.refl _ _).grown hgrow (Nat.le_refl _) (fun k hk => by simp at hk)
    have hrow : Row w1 w.heap.size w.heap.size (L2.length + 1) (fil [] (L2.length + 1)) := by unfold Row; rw [← made_fil]; exact hown
    clear hown hgrow
    go_wp2
    go_loopw [6, 26] (fun cv iv wr => ∃ (k c : Nat) (acc : List Nat), k ≤ L2.length ∧ iv = .int .i64 k ∧ cv = .int .u64 c ∧ AddAt L2 L1 k c acc ∧ Row wr w.heap.size w.heap.size (L2.length + 1) (fil acc (L2.length + 1 - k)) ∧ Below w.heap.size w wr) (fun _ iv _ => L2.length - (intOf iv).toNat)
    case atStart => exact ⟨0, 0, [], Nat.zero_le _, rfl, rfl, AddAt.zero _ _, hrow, hbel⟩
    case round =>
      clear hrow hbel
      obtain ⟨k, c, acc, hk, rfl, rfl, hat, hrow, hbel⟩ := hrel
      have hc1 := hat.c1
      by_cases hlt : k < L2.length
      · obtain ⟨bA, oA, rfl, hx⟩ := HC2.out (ne_nil hlt)
        have hx' : wr.cell? ⟨bA, oA + k, none⟩ = some (.int .u32 (lm L2 k : Nat)) := by rw [hbel.cell (World.block_lt_of_cell? w _ (hx k hlt))]; exact hx k hlt
        have hxb := ho2.at k
        have hf := hrow.free k
        have hcl : wr.cell? ⟨w.heap.size, k, none⟩ = some (.int .u32 (lm (fil acc (L2.length + 1 - k)) k : Nat)) := hrow.cell (by rw [fil_length, hat.len]; omega) k (by omega)
        unfold BB at hxb
        clear hx
        by_cases hlb : k < L1.length
        · obtain ⟨bB, oB, rfl, hy⟩ := HC1.out (ne_nil hlb)
          have hy' : wr.cell? ⟨bB, oB + k, none⟩ = some (.int .u32 (lm L1 k : Nat)) := by rw [hbel.cell (World.block_lt_of_cell? w _ (hy k hlb))]; exact hy k hlb
          have hyb := ho1.at k
          unfold BB at hyb
          clear hy
          go_wp2
          refine ⟨add_next hat ho2 ho1 hlt (Nat.le_refl _) hrow hbel (by omega), ?_⟩
          simp [intOf]; omega
        · have hyz : lm L1 k = 0 := lm_over _ _ (by omega)
          have HYZ : Hid (lm L1 k = 0) := hyz
          clear hyz
          go_wp2
          refine ⟨add_next hat ho2 ho1 hlt (Nat.le_refl _) hrow hbel (by have := HYZ.out; omega), ?_⟩
          simp [intOf]; omega
      · have hkL : k = L2.length := by omega
        subst hkL
        have hf := hrow.free L2.length
        have hcl : wr.cell? ⟨w.heap.size, L2.length, none⟩ = some (.int .u32 (lm (fil acc (L2.length + 1 - L2.length)) L2.length : Nat)) := hrow.cell (by rw [fil_length, hat.len]; omega) _ (by omega)
        obtain ⟨zs, hzv, hzN, hzl, hzB⟩ := add_last hat (by omega) (Nat.le_refl _) hrow hbel
        have HZV : Hid (val zs = val L2 + val L1) := hzv
        have HZL : Hid (zs.length = L2.length + 1) := hzl
        clear hzv hzl hrow hat hbel
        go_wp2_with fail
        refine (trim_any _ zs _ hzN).mono ?_
        rintro e w2 ⟨v3, rfl, rfl, hN3, _⟩
        rw [HZV.out] at hN3
        go_wp2
        go_ret
        refine ⟨_, rfl, ?_, hzB⟩
        have e3 : val xs + val ys = val L2 + val L1 := by have := HM1.out; have := HM2.out; omega
        rw [e3]; exact hN3
  · go_wp2_with (at_make; refine wpList_make_full _ rfl _ _ 23 rfl w.heap.size 84 i0 (.int .u32 0) 1 Try.underlying23 hi hz0 hz1 _ _ _ _ (L1.length + 1) rfl rfl ?_ ?_ ?_ ?_ (Nat.le_refl _) ?_)
    all_goals try omega
    all_goals try (rw [hz2]; omega)
    all_goals try (unfold maxLen; omega)
    intro w1 hown hgrow
    have hbel : Below w.heap.size w w1 := (Below.refl _ _).grown hgrow (Nat.le_refl _) (fun k hk => by simp at hk)
    have hrow : Row w1 w.heap.size w.heap.size (L1.length + 1) (fil [] (L1.length + 1)) := by unfold Row; rw [← made_fil]; exact hown
    clear hown hgrow
    go_wp2
    go_loopw [6, 26] (fun cv iv wr => ∃ (k c : Nat) (acc : List Nat), k ≤ L1.length ∧ iv = .int .i64 k ∧ cv = .int .u64 c ∧ AddAt L1 L2 k c acc ∧ Row wr w.heap.size w.heap.size (L1.length + 1) (fil acc (L1.length + 1 - k)) ∧ Below w.heap.size w wr) (fun _ iv _ => L1.length - (intOf iv).toNat)
    case atStart => exact ⟨0, 0, [], Nat.zero_le _, rfl, rfl, AddAt.zero _ _, hrow, hbel⟩
    case round =>
      clear hrow hbel
      obtain ⟨k, c, acc, hk, rfl, rfl, hat, hrow, hbel⟩ := hrel
      have hc1 := hat.c1
      by_cases hlt : k < L1.length
      · obtain ⟨bA, oA, rfl, hx⟩ := HC1.out (ne_nil hlt)
        have hx' : wr.cell? ⟨bA, oA + k, none⟩ = some (.int .u32 (lm L1 k : Nat)) := by rw [hbel.cell (World.block_lt_of_cell? w _ (hx k hlt))]; exact hx k hlt
        have hxb := ho1.at k
        have hf := hrow.free k
        have hcl : wr.cell? ⟨w.heap.size, k, none⟩ = some (.int .u32 (lm (fil acc (L1.length + 1 - k)) k : Nat)) := hrow.cell (by rw [fil_length, hat.len]; omega) k (by omega)
        unfold BB at hxb
        clear hx
        by_cases hlb : k < L2.length
        · obtain ⟨bB, oB, rfl, hy⟩ := HC2.out (ne_nil hlb)
          have hy' : wr.cell? ⟨bB, oB + k, none⟩ = some (.int .u32 (lm L2 k : Nat)) := by rw [hbel.cell (World.block_lt_of_cell? w _ (hy k hlb))]; exact hy k hlb
          have hyb := ho2.at k
          unfold BB at hyb
          clear hy
          go_wp2
          refine ⟨add_next hat ho1 ho2 hlt (Nat.le_refl _) hrow hbel (by omega), ?_⟩
          simp [intOf]; omega
        · have hyz : lm L2 k = 0 := lm_over _ _ (by omega)
          have HYZ : Hid (lm L2 k = 0) := hyz
          clear hyz
          go_wp2
          refine ⟨add_next hat ho1 ho2 hlt (Nat.le_refl _) hrow hbel (by have := HYZ.out; omega), ?_⟩
          simp [intOf]; omega
      · have hkL : k = L1.length := by omega
        subst hkL
        have hf := hrow.free L1.length
        have hcl : wr.cell? ⟨w.heap.size, L1.length, none⟩ = some (.int .u32 (lm (fil acc (L1.length + 1 - L1.length)) L1.length : Nat)) := hrow.cell (by rw [fil_length, hat.len]; omega) _ (by omega)
        obtain ⟨zs, hzv, hzN, hzl, hzB⟩ := add_last hat (by omega) (Nat.le_refl _) hrow hbel
        have HZV : Hid (val zs = val L1 + val L2) := hzv
        have HZL : Hid (zs.length = L1.length + 1) := hzl
        clear hzv hzl hrow hat hbel
        go_wp2_with fail
        refine (trim_any _ zs _ hzN).mono ?_
        rintro e w2 ⟨v3, rfl, rfl, hN3, _⟩
        rw [HZV.out] at hN3
        go_wp2
        go_ret
        refine ⟨_, rfl, ?_, hzB⟩
        have e3 : val xs + val ys = val L1 + val L2 := by have := HM1.out; have := HM2.out; omega
        rw [e3]; exact hN3
end Go.Proofs.Ytgkibmigbjjnnaa
