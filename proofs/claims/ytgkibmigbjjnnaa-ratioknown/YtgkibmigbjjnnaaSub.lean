/- limb.Sub answers a new list: the difference, or ErrRange. -/
import Derived.Test.YtgkibmigbjjnnaaAdd
import Derived.Laws.Bits64
namespace Go.Proofs.Ytgkibmigbjjnnaa
open Go.RowKit

/-- a difference's state behind k limbs: b is what was borrowed -/
structure SubAt (LA LB : List Nat) (k b : Nat) (acc : List Nat) : Prop where
  len : acc.length = k
  ok : Ok acc
  b1 : b ≤ 1
  sum : val acc + val (LB.take k) = val (LA.take k) + BB ^ k * b

theorem SubAt.zero (LA LB : List Nat) : SubAt LA LB 0 0 [] := ⟨rfl, Ok.nil, by omega, by simp [val]⟩

theorem SubAt.step {LA LB : List Nat} {k b d b' : Nat} {acc : List Nat} (h : SubAt LA LB k b acc) (hd : d < BB) (hb : b' ≤ 1) (e : d + b + lm LB k = lm LA k + BB * b') :
    SubAt LA LB (k + 1) b' (acc ++ [d]) := by
  refine ⟨by simp [h.len], h.ok.append (Ok.cons hd Ok.nil), hb, ?_⟩
  rw [take_succ_any, take_succ_any, val_append, h.len, Nat.pow_succ]
  simp only [val, Nat.mul_zero, Nat.add_zero]
  have hs := h.sum
  have e2 : BB ^ k * (d + b + lm LB k) = BB ^ k * (lm LA k + BB * b') := by rw [e]
  rw [Nat.mul_add, Nat.mul_add, Nat.mul_add, ← Nat.mul_assoc] at e2
  omega

theorem hide {p : Prop} (h : p) : Hid p := h

theorem sub_words (x b y : Nat) (hx : x < 4294967296) (hb : b ≤ 1) (hy : y < 4294967296) :
    ∃ d b' : Nat, d < BB ∧ b' ≤ 1 ∧ d + b + y = x + BB * b' ∧ IntKind.u64.wrap (IntKind.u64.wrap ((x : Int) - (b : Int)) - (y : Int)) / 9223372036854775808 = (b' : Int) ∧ IntKind.u64.wrap (IntKind.u64.wrap ((x : Int) - (b : Int)) - (y : Int)) % 4294967296 = (d : Int) := by
  rw [IntKind.wrap_u64, IntKind.wrap_u64]
  unfold BB
  by_cases h : b + y ≤ x
  · exact ⟨x - b - y, 0, by omega, by omega, by omega, by omega, by omega⟩
  · exact ⟨x + 4294967296 - b - y, 1, by omega, by omega, by omega, by omega, by omega⟩

theorem sub_words0 (x b : Nat) (hx : x < 4294967296) (hb : b ≤ 1) :
    ∃ d b' : Nat, d < BB ∧ b' ≤ 1 ∧ d + b + 0 = x + BB * b' ∧ IntKind.u64.wrap ((x : Int) - (b : Int)) / 9223372036854775808 = (b' : Int) ∧ IntKind.u64.wrap ((x : Int) - (b : Int)) % 4294967296 = (d : Int) := by
  rw [IntKind.wrap_u64]
  unfold BB
  by_cases h : b ≤ x
  · exact ⟨x - b, 0, by omega, by omega, by omega, by omega, by omega⟩
  · exact ⟨x + 4294967296 - b, 1, by omega, by omega, by omega, by omega, by omega⟩

theorem sub_next {w wr : World} {g k b d b' : Nat} {acc LA LB : List Nat} {s : Int} (hat : SubAt LA LB k b acc) (hlt : k < LA.length) (hg : w.heap.size ≤ g)
    (hrow : Row wr w.heap.size g LA.length (fil acc (LA.length - k))) (hbel : Below w.heap.size w wr) (hd : d < BB) (hb : b' ≤ 1) (e : d + b + lm LB k = lm LA k + BB * b') (e1 : s / 9223372036854775808 = (b' : Int)) (e2 : s % 4294967296 = (d : Int)) :
    ∃ (k' c' : Nat) (acc' : List Nat), k' ≤ LA.length ∧ Value.int .i64 (↑k + 1) = .int .i64 k' ∧ Value.int .u64 (s / 9223372036854775808) = .int .u64 c' ∧ SubAt LA LB k' c' acc' ∧
      Row (wr.setCell ⟨g, k, none⟩ (.int .u32 (s % 4294967296))) w.heap.size g LA.length (fil acc' (LA.length - k')) ∧ Below w.heap.size w (wr.setCell ⟨g, k, none⟩ (.int .u32 (s % 4294967296))) := by
  refine ⟨k + 1, _, _, hlt, by go_num, by rw [e1], hat.step hd hb e, ?_, hbel.setCell hg _⟩
  rw [e2]
  have := hrow.set k d
  have hr : LA.length - k = (LA.length - (k + 1)) + 1 := by omega
  rw [hr] at this
  have hl := hat.len
  subst hl
  rw [fil_set] at this
  exact this

theorem sub_last {LA LB acc : List Nat} {b : Nat} (hat : SubAt LA LB LA.length b acc) (hle : LB.length ≤ LA.length) (h : ¬ val LA < val LB) : val acc = val LA - val LB := by
  have hs := hat.sum
  rw [List.take_length, List.take_of_length_le hle] at hs
  have hv := val_lt hat.ok
  rw [hat.len] at hv
  have hb := hat.b1
  have : b = 0 := by
    by_cases e : b = 0
    · exact e
    · have : b = 1 := by omega
      subst this; omega
  subst this
  omega

set_option maxRecDepth 100000 in
set_option maxHeartbeats 400000 in
theorem sub_lt (v1 v2 : Value) (xs ys : List Nat) (w : World) (h1 : Nums w v1 xs) (h2 : Nums w v2 ys) (hlt : val xs < val ys) :
    Calls Try.prog 79 #[v1, v2] w fun e w' => e = .returned (.tuple #[.slice none 0 0, .int .i64 5]) ∧ Below w.heap.size w w' := by
  have hc : cmpI (val xs) (val ys) < 0 := by simp [cmpI, hlt]
  have HLT : Hid (val xs < val ys) := hlt
  clear hlt
  go_enter Try.func79, Try.ntmps79
  go_wp2_with fail
  refine (cmp_any v1 v2 xs ys _ h1 h2).mono ?_
  rintro e w1 ⟨rfl, hb1⟩
  clear h1 h2
  go_wp2
  go_ret2
  exact ⟨rfl, hb1⟩

set_option maxRecDepth 100000 in
set_option maxHeartbeats 1000000 in
theorem sub_ge (v1 v2 : Value) (xs ys : List Nat) (w : World) (h1 : Nums w v1 xs) (h2 : Nums w v2 ys) (b1 : xs.length ≤ 1000000000) (hlt : ¬ val xs < val ys) :
    Calls Try.prog 79 #[v1, v2] w fun e w' => ∃ v', e = .returned (.tuple #[v', .int .i64 0]) ∧ Nums w' v' (lim (val xs - val ys)) ∧ Below w.heap.size w w' := by
  obtain ⟨i0, hi, hz0, hz1, hz2⟩ := info_parts Try.info84
  have HN1 : Hid (Nums w v1 xs) := h1
  have HN2 : Hid (Nums w v2 ys) := h2
  have le1 := lim_val_length h1.ok
  have le2 := lim_val_length h2.ok
  have hc : ¬ cmpI (val xs) (val ys) < 0 := by simp [cmpI, hlt]; split <;> omega
  have HLT : Hid (¬ val xs < val ys) := hlt
  clear hlt
  go_enter Try.func79, Try.ntmps79
  go_wp2_with fail
  refine (cmp_any v1 v2 xs ys _ h1 h2).mono ?_
  rintro e w0 ⟨rfl, hb0⟩
  clear h1 h2
  go_wp2_with fail
  refine (trim_any v1 xs _ (HN1.out.below hb0)).mono ?_
  rintro e w1 ⟨v1', rfl, rfl, hN1, _⟩
  go_wp2_with fail
  refine (trim_any v2 ys _ (HN2.out.below hb0)).mono ?_
  rintro e w1 ⟨v2', rfl, rfl, hN2, _⟩
  clear HN1 HN2
  have HM1 : Hid (val (lim (val xs)) = val xs) := val_lim _
  have HM2 : Hid (val (lim (val ys)) = val ys) := val_lim _
  have HL : Hid ((lim (val xs)).length < (lim (val ys)).length → val xs < val ys) := fun h => lim_len_lt h
  obtain ⟨ho1, a1, c1, rfl, hl1, hm1, hc1⟩ := hN1
  obtain ⟨ho2, a2, c2, rfl, hl2, hm2, hc2⟩ := hN2
  have HC1 : Hid (lim (val xs) ≠ [] → ∃ b off, a1 = some ⟨b, off, none⟩ ∧ ∀ i, i < (lim (val xs)).length → w0.cell? ⟨b, off + i, none⟩ = some (.int .u32 (lm (lim (val xs)) i : Nat))) := hc1
  have HC2 : Hid (lim (val ys) ≠ [] → ∃ b off, a2 = some ⟨b, off, none⟩ ∧ ∀ i, i < (lim (val ys)).length → w0.cell? ⟨b, off + i, none⟩ = some (.int .u32 (lm (lim (val ys)) i : Nat))) := hc2
  clear hc1 hc2
  unfold maxLen at hm1 hm2
  generalize lim (val xs) = L1 at *
  generalize lim (val ys) = L2 at *
  have hle : L2.length ≤ L1.length := by
    by_cases h : L1.length < L2.length
    · exact absurd (HL.out h) HLT.out
    · omega
  clear HL
  go_wp2_with (at_make; refine wpList_make_full _ rfl _ _ 23 rfl w0.heap.size 84 i0 (.int .u32 0) 1 Try.underlying23 hi hz0 hz1 _ _ _ _ L1.length rfl rfl ?_ ?_ ?_ ?_ (Nat.le_refl _) ?_)
  all_goals try rfl
  all_goals try (rw [hz2]; omega)
  all_goals try (unfold maxLen; omega)
  intro w1 hown hgrow
  have hbel : Below w0.heap.size w0 w1 := (Below.refl _ _).grown hgrow (Nat.le_refl _) (fun k hk => by simp at hk)
  have hrow : Row w1 w0.heap.size w0.heap.size L1.length (fil [] L1.length) := by unfold Row; rw [← made_fil]; exact hown
  clear hown hgrow
  go_wp2
  go_loopw [7, 24] (fun bv iv wr => ∃ (k b : Nat) (acc : List Nat), k ≤ L1.length ∧ iv = .int .i64 k ∧ bv = .int .u64 b ∧ SubAt L1 L2 k b acc ∧ Row wr w0.heap.size w0.heap.size L1.length (fil acc (L1.length - k)) ∧ Below w0.heap.size w0 wr) (fun _ iv _ => L1.length - (intOf iv).toNat)
  case atStart => exact ⟨0, 0, [], Nat.zero_le _, rfl, rfl, SubAt.zero _ _, hrow, hbel⟩
  case round =>
    clear hrow hbel
    obtain ⟨k, b, acc, hk, rfl, rfl, hat, hrow, hbel⟩ := hrel
    have hbb := hat.b1
    by_cases hlt : k < L1.length
    · obtain ⟨bA, oA, rfl, hx⟩ := HC1.out (ne_nil hlt)
      have hx' : wr.cell? ⟨bA, oA + k, none⟩ = some (.int .u32 (lm L1 k : Nat)) := by rw [hbel.cell (World.block_lt_of_cell? w0 _ (hx k hlt))]; exact hx k hlt
      have hxb := ho1.at k
      have hf := hrow.free k
      have hcl : wr.cell? ⟨w0.heap.size, k, none⟩ = some (.int .u32 (lm (fil acc (L1.length - k)) k : Nat)) := hrow.cell (by rw [fil_length, hat.len]; omega) k (by omega)
      unfold BB at hxb
      clear hx
      by_cases hlb : k < L2.length
      · obtain ⟨bB, oB, rfl, hy⟩ := HC2.out (ne_nil hlb)
        have hy' : wr.cell? ⟨bB, oB + k, none⟩ = some (.int .u32 (lm L2 k : Nat)) := by rw [hbel.cell (World.block_lt_of_cell? w0 _ (hy k hlb))]; exact hy k hlb
        have hyb := ho2.at k
        unfold BB at hyb
        clear hy
        have HW := hide (sub_words _ _ _ hxb hbb hyb)
        go_wp2
        obtain ⟨d, b', hd, hb', e, e1, e2⟩ := HW.out
        refine ⟨sub_next hat hlt (Nat.le_refl _) hrow hbel hd hb' e e1 e2, ?_⟩
        simp [intOf]; omega
      · have HYZ : Hid (lm L2 k = 0) := lm_over _ _ (by omega)
        have HW := hide (sub_words0 _ _ hxb hbb)
        go_wp2
        obtain ⟨d, b', hd, hb', e, e1, e2⟩ := HW.out
        refine ⟨sub_next hat hlt (Nat.le_refl _) hrow hbel hd hb' (by rw [HYZ.out]; exact e) e1 e2, ?_⟩
        simp [intOf]; omega
    · have hkL : k = L1.length := by omega
      subst hkL
      have hv : val acc = val L1 - val L2 := sub_last hat hle (by rw [HM1.out, HM2.out]; exact HLT.out)
      rw [show L1.length - L1.length = 0 from by omega] at hrow
      have hzN : Nums wr (.slice (some ⟨w0.heap.size, 0, none⟩) L1.length L1.length) (fil acc 0) := hrow.nums (by rw [fil_length, hat.len]; rfl) (fil_ok hat.ok 0)
      have HZV : Hid (val (fil acc 0) = val xs - val ys) := by show _ = _; rw [fil_val, hv, HM1.out, HM2.out]
      have HB : Hid (Below w.heap.size w wr) := hb0.trans (hbel.mono hb0.size)
      clear hv hrow hat hbel
      go_wp2_with fail
      refine (trim_any _ _ _ hzN).mono ?_
      rintro e w2 ⟨v3, rfl, rfl, hN3, _⟩
      rw [HZV.out] at hN3
      go_wp2
      go_ret2
      exact ⟨v3, rfl, hN3, HB.out⟩

end Go.Proofs.Ytgkibmigbjjnnaa
