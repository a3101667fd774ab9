/- limb.Mul answers a new list: the product. -/
import Derived.Test.YtapodkjmhenceaaSub
namespace Go.Proofs.Ytapodkjmhenceaa
open Go.RowKit

theorem val_set (xs : List Nat) (i y : Nat) (h : i < xs.length) : val (xs.set i y) + BB ^ i * lm xs i = val xs + BB ^ i * y := by
  induction xs generalizing i with
  | nil => simp at h
  | cons x xs ih =>
    cases i with
    | zero => simp [val, lm]; omega
    | succ i =>
      have := ih i (by simpa using h)
      simp only [List.set_cons_succ, val]
      have e : lm (x :: xs) (i + 1) = lm xs i := by simp [lm]
      rw [e, Nat.pow_succ, Nat.mul_comm (BB ^ i) BB, Nat.mul_assoc, Nat.mul_assoc]
      have h2 : BB * (val (xs.set i y) + BB ^ i * lm xs i) = BB * (val xs + BB ^ i * y) := by rw [this]
      rw [Nat.mul_add, Nat.mul_add] at h2
      omega

theorem fil_set_in (acc : List Nat) (r i x : Nat) (h : i < acc.length) : (fil acc r).set i x = fil (acc.set i x) r := by
  simp only [fil]; rw [List.set_append_left _ _ h]
theorem fil_lm (acc : List Nat) (r i : Nat) (h : i < acc.length) : lm (fil acc r) i = lm acc i := by
  simp [fil, lm, List.getElem?_append_left h]

/-- a product's state behind k limbs of the first number -/
structure MulAt (LA LB : List Nat) (k : Nat) (acc : List Nat) : Prop where
  len : acc.length = k + LB.length
  ok : Ok acc
  prod : val acc = val (LA.take k) * val LB

/-- and within: behind q limbs of the second one -/
structure MulIn (LB : List Nat) (k x v0 q c : Nat) (acc : List Nat) : Prop where
  len : acc.length = k + LB.length
  ok : Ok acc
  c1 : c < BB
  prod : val acc + BB ^ (k + q) * c = v0 + BB ^ k * (x * val (LB.take q))

theorem MulAt.zero (LA LB : List Nat) : MulAt LA LB 0 (List.replicate LB.length 0) := ⟨by simp, fun x hx => by rw [List.eq_of_mem_replicate hx]; exact BB_pos, by simp [val, val_replicate]⟩

theorem MulIn.zero {LA LB : List Nat} {k x : Nat} {acc : List Nat} (h : MulAt LA LB k acc) : MulIn LB k x (val acc) 0 0 acc := ⟨h.len, h.ok, BB_pos, by simp [val]⟩

theorem mul_bound (x y : Nat) (hx : x < BB) (hy : y < BB) : x * y ≤ 18446744065119617025 := by
  have h1 : x ≤ 4294967295 := by unfold BB at hx; omega
  have h2 : y ≤ 4294967295 := by unfold BB at hy; omega
  exact Nat.le_trans (Nat.mul_le_mul h1 h2) (by decide)

theorem mul_boundI (x y : Nat) (hx : x < BB) (hy : y < BB) : 0 ≤ (x : Int) * (y : Int) ∧ (x : Int) * (y : Int) ≤ 18446744065119617025 := by
  have h := mul_bound x y hx hy
  rw [← Int.natCast_mul]
  omega

theorem MulIn.step {LB : List Nat} {k x v0 q c t : Nat} {acc : List Nat} (h : MulIn LB k x v0 q c acc) (hq : q < LB.length) (hx : x < BB) (hB : Ok LB) (ht : t = c + (x * lm LB q + lm acc (k + q))) :
    MulIn LB k x v0 (q + 1) (t / BB) (acc.set (k + q) (t % BB)) := by
  have hl := h.len
  have h1 := h.c1
  have h2 := h.ok.at (k + q)
  have h3 := mul_bound x (lm LB q) hx (hB.at q)
  refine ⟨by simp [hl], h.ok.set _ _ (Nat.mod_lt _ BB_pos), ?_, ?_⟩
  · rw [Nat.div_lt_iff_lt_mul BB_pos]; unfold BB at *; omega
  · have hs := val_set acc (k + q) (t % BB) (by omega)
    have hp := h.prod
    rw [take_succ_any]
    have e1 : BB ^ (k + (q + 1)) * (t / BB) = BB ^ (k + q) * (BB * (t / BB)) := by rw [← Nat.add_assoc, Nat.pow_succ, Nat.mul_assoc]
    have e2 : BB ^ (k + q) * (t % BB) + BB ^ (k + q) * (BB * (t / BB)) = BB ^ (k + q) * t := by rw [← Nat.mul_add, Nat.mod_add_div]
    have e3 : BB ^ (k + q) * t = BB ^ (k + q) * c + BB ^ (k + q) * (x * lm LB q) + BB ^ (k + q) * lm acc (k + q) := by rw [ht, Nat.mul_add, Nat.mul_add, Nat.add_assoc]
    have e4 : BB ^ k * (x * (val (LB.take q) + BB ^ q * lm LB q)) = BB ^ k * (x * val (LB.take q)) + BB ^ (k + q) * (x * lm LB q) := by
      rw [Nat.mul_add, Nat.mul_add, Nat.pow_add]
      congr 1
      rw [Nat.mul_left_comm x, Nat.mul_assoc]
    rw [e4, e1]
    omega

theorem MulIn.last {LA LB : List Nat} {k c : Nat} {acc acc0 : List Nat} (h0 : MulAt LA LB k acc0) (h : MulIn LB k (lm LA k) (val acc0) LB.length c acc) :
    MulAt LA LB (k + 1) (acc ++ [c]) := by
  have hl := h.len
  refine ⟨by simp [hl]; omega, h.ok.append (Ok.cons h.c1 Ok.nil), ?_⟩
  have hp := h.prod
  rw [val_append, hl, take_succ_any]
  simp only [val, Nat.mul_zero, Nat.add_zero]
  rw [hp, List.take_length, h0.prod, Nat.add_mul, Nat.mul_assoc]

theorem mul_next {w wr : World} {g k q c x v0 n N : Nat} {acc LB : List Nat} {s : Int} (hat : MulIn LB k x v0 q c acc) (hx : x < BB) (hB : Ok LB) (hlt : q < LB.length) (hg : w.heap.size ≤ g)
    (hrow : Row wr w.heap.size g N (fil acc n)) (hbel : Below w.heap.size w wr) (hs : s = ((c + (x * lm LB q + lm acc (k + q)) : Nat) : Int)) :
    ∃ (q' c' : Nat) (acc' : List Nat), q' ≤ LB.length ∧ Value.int .i64 (↑q + 1) = .int .i64 q' ∧ Value.int .u64 (s / 4294967296) = .int .u64 c' ∧ MulIn LB k x v0 q' c' acc' ∧
      Row (wr.setCell ⟨g, k + q, none⟩ (.int .u32 (s % 4294967296))) w.heap.size g N (fil acc' n) ∧ Below w.heap.size w (wr.setCell ⟨g, k + q, none⟩ (.int .u32 (s % 4294967296))) := by
  have e1 : s / 4294967296 = (((c + (x * lm LB q + lm acc (k + q))) / BB : Nat) : Int) := by subst hs; unfold BB; omega
  have e2 : s % 4294967296 = (((c + (x * lm LB q + lm acc (k + q))) % BB : Nat) : Int) := by subst hs; unfold BB; omega
  refine ⟨q + 1, _, _, hlt, by go_num, by rw [e1], hat.step hlt hx hB rfl, ?_, hbel.setCell hg _⟩
  rw [e2]
  have := hrow.set (k + q) ((c + (x * lm LB q + lm acc (k + q))) % BB)
  rw [fil_set_in _ _ _ _ (by rw [hat.len]; omega)] at this
  exact this

theorem mul_row {w wr : World} {g k c N r : Nat} {acc : List Nat} (hg : w.heap.size ≤ g) (hl : acc.length = k)
    (hrow : Row wr w.heap.size g N (fil acc (r + 1))) (hbel : Below w.heap.size w wr) :
    Row (wr.setCell ⟨g, k, none⟩ (.int .u32 (c : Nat))) w.heap.size g N (fil (acc ++ [c]) r) ∧ Below w.heap.size w (wr.setCell ⟨g, k, none⟩ (.int .u32 (c : Nat))) := by
  have := hrow.set k c
  subst hl
  rw [fil_set] at this
  exact ⟨this, hbel.setCell hg _⟩

set_option maxRecDepth 100000 in
set_option maxHeartbeats 2000000 in
theorem mul_any (v1 v2 : Value) (xs ys : List Nat) (w : World) (h1 : Nums w v1 xs) (h2 : Nums w v2 ys) (b1 : xs.length ≤ 1000000000) (b2 : ys.length ≤ 1000000000) :
    Calls Try.prog 80 #[v1, v2] w fun e w' => ∃ v', e = .returned v' ∧ Nums w' v' (lim (val xs * val ys)) ∧ Below w.heap.size w w' := by
  obtain ⟨i0, hi, hz0, hz1, hz2⟩ := info_parts Try.info108
  have HN2 : Hid (Nums w v2 ys) := h2
  have le1 := lim_val_length h1.ok
  have le2 := lim_val_length h2.ok
  go_enter Try.func80, Try.ntmps80
  go_wp2_with fail
  refine (trim_any v1 xs _ h1).mono ?_
  rintro e w1 ⟨v1', rfl, rfl, hN1, hcut1⟩
  go_wp2_with fail
  refine (trim_any v2 ys _ HN2.out).mono ?_
  rintro e w1 ⟨v2', rfl, rfl, hN2, hcut2⟩
  clear h1 h2 HN2 hcut1 hcut2
  have HM1 : Hid (val (lim (val xs)) = val xs) := val_lim _
  have HM2 : Hid (val (lim (val ys)) = val ys) := val_lim _
  obtain ⟨ho1, a1, c1, rfl, hl1, hm1, hc1⟩ := hN1
  obtain ⟨ho2, a2, c2, rfl, hl2, hm2, hc2⟩ := hN2
  have HC1 : Hid (lim (val xs) ≠ [] → ∃ b off, a1 = some ⟨b, off, none⟩ ∧ ∀ i, i < (lim (val xs)).length → w.cell? ⟨b, off + i, none⟩ = some (.int .u32 (lm (lim (val xs)) i : Nat))) := hc1
  have HC2 : Hid (lim (val ys) ≠ [] → ∃ b off, a2 = some ⟨b, off, none⟩ ∧ ∀ i, i < (lim (val ys)).length → w.cell? ⟨b, off + i, none⟩ = some (.int .u32 (lm (lim (val ys)) i : Nat))) := hc2
  clear hc1 hc2
  unfold maxLen at hm1 hm2
  generalize lim (val xs) = L1 at *
  generalize lim (val ys) = L2 at *
  go_wp2_with (at_make; refine wpList_make_full _ rfl _ _ 29 rfl w.heap.size 108 i0 (.int .u32 0) 1 Try.underlying29 hi hz0 hz1 _ _ _ _ (L1.length + L2.length) rfl rfl ?_ ?_ ?_ ?_ (Nat.le_refl _) ?_)
  all_goals try omega
  all_goals try (rw [hz2]; omega)
  all_goals try (unfold maxLen; omega)
  intro w1 hown hgrow
  have hbel : Below w.heap.size w w1 := (Below.refl _ _).grown hgrow (Nat.le_refl _) (fun k hk => by simp at hk)
  have hrow : Row w1 w.heap.size w.heap.size (L1.length + L2.length) (fil (List.replicate L2.length 0) L1.length) := by
    have e : fil (List.replicate L2.length 0) L1.length = fil [] (L1.length + L2.length) := by simp [fil]; omega
    rw [e]; unfold Row; rw [← made_fil]; exact hown
  clear hown hgrow
  go_wp2
  go_loopw [23] (fun iv wr => ∃ (k : Nat) (acc : List Nat), k ≤ L1.length ∧ iv = .int .i64 k ∧ MulAt L1 L2 k acc ∧ Row wr w.heap.size w.heap.size (L1.length + L2.length) (fil acc (L1.length - k)) ∧ Below w.heap.size w wr) (fun iv _ => L1.length - (intOf iv).toNat)
  case atStart => exact ⟨0, _, Nat.zero_le _, rfl, MulAt.zero _ _, hrow, hbel⟩
  case round =>
    clear hrow hbel
    obtain ⟨k, acc0, hk, rfl, hat, hrow, hbel⟩ := hrel
    by_cases hlt : k < L1.length
    · obtain ⟨bA, oA, rfl, hx⟩ := HC1.out (ne_nil hlt)
      have hx' : wr.cell? ⟨bA, oA + k, none⟩ = some (.int .u32 (lm L1 k : Nat)) := by rw [hbel.cell (World.block_lt_of_cell? w _ (hx k hlt))]; exact hx k hlt
      have hxb := ho1.at k
      have HXB : Hid (lm L1 k < BB) := hxb
      unfold BB at hxb
      clear hx HC1
      have HAT := hide hat
      have hstart := MulIn.zero (x := lm L1 k) hat
      clear hat
      go_wp2
      go_loopw [8, 30] (fun cv iv wi => ∃ (q c : Nat) (acc : List Nat), q ≤ L2.length ∧ iv = .int .i64 q ∧ cv = .int .u64 c ∧ MulIn L2 k (lm L1 k) (val acc0) q c acc ∧ Row wi w.heap.size w.heap.size (L1.length + L2.length) (fil acc (L1.length - k)) ∧ Below w.heap.size w wi) (fun _ iv _ => L2.length - (intOf iv).toNat)
      case atStart => exact ⟨0, 0, acc0, Nat.zero_le _, rfl, rfl, hstart, hrow, hbel⟩
      case round =>
        clear hrow hbel hstart hx'
        obtain ⟨q, c, acc, hq, rfl, rfl, hin, hrow, hbel⟩ := hrel
        have hcb := hin.c1
        unfold BB at hcb
        by_cases hltq : q < L2.length
        · obtain ⟨bB, oB, rfl, hy⟩ := HC2.out (ne_nil hltq)
          have hy' := (hbel.cell (World.block_lt_of_cell? w _ (hy q hltq))).trans (hy q hltq)
          have hyb := ho2.at q
          have hxy := mul_bound _ _ HXB.out (ho2.at q)
          unfold BB at hyb
          have hf := hrow.free (k + q)
          have hcl := hrow.cell (by rw [fil_length, hin.len]; omega) (k + q) (by omega)
          rw [fil_lm _ _ _ (by rw [hin.len]; omega)] at hcl
          have hpb := hin.ok.at (k + q)
          unfold BB at hpb
          obtain ⟨hxy0, hxyI⟩ := mul_boundI _ _ HXB.out (ho2.at q)
          clear hy hxy
          have HI := hide hin
          have HR := hide hrow
          have HBL := hide hbel
          clear hin hrow hbel
          go_wp2
          refine ⟨mul_next HI.out HXB.out ho2 hltq (Nat.le_refl _) HR.out HBL.out (by rw [Int.natCast_add, Int.natCast_add, Int.natCast_mul]), ?_⟩
          simp [intOf]; omega
        · have hqL : q = L2.length := by omega
          subst hqL
          have hf := hrow.free (k + L2.length)
          have hcl := hrow.cell (by rw [fil_length, hin.len]; omega) (k + L2.length) (by omega)
          have HAT2 := hide (MulIn.last HAT.out hin)
          have hr : L1.length - k = (L1.length - (k + 1)) + 1 := by omega
          rw [hr] at hrow
          have HR := hide (mul_row (c := c) (Nat.le_refl _) hin.len hrow hbel)
          clear hrow hbel hin hr
          go_wp2
          refine ⟨⟨k + 1, _, by omega, by go_num, HAT2.out, HR.out.1, HR.out.2⟩, ?_⟩
          simp [intOf]; omega
    · have hkL : k = L1.length := by omega
      subst hkL
      rw [show L1.length - L1.length = 0 from by omega] at hrow
      have hzN := hrow.nums (by rw [fil_length, hat.len]; rfl) (fil_ok hat.ok 0)
      have HZV : Hid (val (fil acc0 0) = val xs * val ys) := by show _ = _; rw [fil_val, hat.prod, List.take_length, HM1.out, HM2.out]
      have HB := hide hbel
      clear hrow hat hbel
      go_wp2_with fail
      refine (trim_any _ _ _ hzN).mono ?_
      rintro e w2 ⟨v3, rfl, rfl, hN3, _⟩
      rw [HZV.out] at hN3
      go_wp2
      go_ret
      exact ⟨v3, rfl, hN3, HB.out⟩
end Go.Proofs.Ytapodkjmhenceaa
