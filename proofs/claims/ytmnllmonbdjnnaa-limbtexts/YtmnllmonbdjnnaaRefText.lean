/- The document's answers for layer 1 (swageref01): Text. -/
import Derived.Test.YtmnllmonbdjnnaaText
import Derived.Test.YtmnllmonbdjnnaaRef
namespace Go.Proofs.Ytmnllmonbdjnnaa
open Go.RowKit

/-- the j low digits, the high one first -/
def lowd : Nat → Nat → List Nat
  | 0, _ => []
  | j + 1, n => (n / 10 ^ j % 10) :: lowd j n
theorem lowd_digs (k n : Nat) : lowd (k + 1) n = digs k n := by
  induction k with
  | zero => simp [lowd, digs]
  | succ k ih => rw [lowd, ih]; rfl
theorem lowd_dec {n j : Nat} (hj : 0 < j) (h1 : n < 10 ^ j) (h2 : 10 ^ (j - 1) ≤ n) : lowd j n = dec n := by
  obtain ⟨k, rfl⟩ : ∃ k, j = k + 1 := ⟨j - 1, by omega⟩
  rw [lowd_digs]
  unfold dec
  rw [nd_unique h1 (.inr h2)]

theorem rdiv_next {w wr : World} {base g d k r cap : Nat} {xs zs qs : List Nat} {s : Int} (hat : DivAt xs d (k + 1) r qs) (hx : Ok xs) (hk : k < xs.length) (hz : zs.length = xs.length)
    (hrow : RowC wr base g xs.length cap (zs.take (k + 1) ++ qs)) (hbel : Below base w wr) (hs : s = ((r * BB + lm xs k : Nat) : Int)) :
    ∃ (k' r' : Nat) (qs' : List Nat), k' ≤ xs.length ∧ Value.int .i64 (↑k - 1) = .int .i64 ((k' : Int) - 1) ∧ Value.int .u64 (s % ↑d) = .int .u64 r' ∧ DivAt xs d k' r' qs' ∧
      RowC (wr.setCell ⟨g, k, none⟩ (.int .u32 (s / ↑d % 4294967296))) base g xs.length cap (zs.take k' ++ qs') ∧ Below base w (wr.setCell ⟨g, k, none⟩ (.int .u32 (s / ↑d % 4294967296))) := by
  have hq : (r * BB + lm xs k) / d < BB := quo_lt (by have := hat.r1; omega) hat.r1 (hx.at k)
  have e1 : s % (d : Int) = (((r * BB + lm xs k) % d : Nat) : Int) := by rw [hs, Int.natCast_emod]
  have e2 : s / (d : Int) % 4294967296 = (((r * BB + lm xs k) / d : Nat) : Int) := by
    rw [hs, ← Int.natCast_ediv]; generalize (r * BB + lm xs k) / d = q at hq ⊢; unfold BB at hq; omega
  refine ⟨k, _, _, by omega, rfl, by rw [e1], hat.step hx hk, ?_, hbel.setCell hrow.ge _⟩
  rw [e2]
  have := hrow.set k ((r * BB + lm xs k) / d)
  rw [take_set_drop zs qs k _ (by omega)] at this
  exact this

theorem row_zero {w : World} {base g n : Nat} (h : w.ownsRow base 33 1 (.slice (some ⟨g, 0, none⟩) n n) n (madeCells #[.int .u32 0] n).toList) : RowC w base g n n (List.replicate n 0) := by
  rw [made_fil] at h
  unfold RowC
  simpa [fil] using h
theorem digit_at (r : Nat) (h : r < 10) : (ByteArray.mk #[48, 49, 50, 51, 52, 53, 54, 55, 56, 57]).extract r (r + 1) = strOfNums (byts [r]) := by
  match r, h with
  | 0, _ => rfl
  | 1, _ => rfl
  | 2, _ => rfl
  | 3, _ => rfl
  | 4, _ => rfl
  | 5, _ => rfl
  | 6, _ => rfl
  | 7, _ => rfl
  | 8, _ => rfl
  | 9, _ => rfl
theorem str_append (xs ys : List Int) : strOfNums xs ++ strOfNums ys = strOfNums (xs ++ ys) := by
  apply ByteArray.ext
  simp [strOfNums, ByteArray.data_append]
theorem digit_more (r j n : Nat) (h : n / 10 ^ j % 10 = r) : (ByteArray.mk #[48, 49, 50, 51, 52, 53, 54, 55, 56, 57]).extract r (r + 1) ++ strOfNums (byts (lowd j n)) = strOfNums (byts (lowd (j + 1) n)) := by
  rw [digit_at r (by omega), str_append, lowd, h]
  rfl

theorem lowd_length (j n : Nat) : (lowd j n).length = j := by
  induction j with
  | zero => rfl
  | succ j ih => rw [lowd, List.length_cons, ih]
theorem low_size (j n : Nat) : (strOfNums (byts (lowd j n))).size = j := by rw [strOfNums_size]; unfold byts; rw [List.length_map, lowd_length]
theorem digit_size (r : Nat) (h : r < 10) : ((ByteArray.mk #[48, 49, 50, 51, 52, 53, 54, 55, 56, 57]).extract r (r + 1)).size = 1 := by rw [digit_at r h]; rfl
/-- a number of so many limbs has no more digits than that -/
theorem dig_few' {N j k : Nat} (h : (lim N).length ≤ k) (hj : j = 0 ∨ 10 ^ (j - 1) ≤ N) : j ≤ 32 * k + 1 := by
  rcases hj with h0 | h0
  · omega
  · have h1 : N < BB ^ k := by
      have := val_lt (ok_lim N)
      rw [val_lim] at this
      exact Nat.lt_of_lt_of_le this (Nat.pow_le_pow_right BB_pos h)
    have h2 : 2 ^ (j - 1) ≤ 10 ^ (j - 1) := Nat.pow_le_pow_left (by decide) _
    have h3 : BB ^ k = 2 ^ (32 * k) := by rw [show BB = 2 ^ 32 from rfl, ← Nat.pow_mul]
    have h4 : 2 ^ (j - 1) < 2 ^ (32 * k) := by rw [← h3]; exact Nat.lt_of_le_of_lt (Nat.le_trans h2 h0) h1
    have := (Nat.pow_lt_pow_iff_right (by decide)).1 h4
    omega
theorem dig_few {N j : Nat} (h : (lim N).length ≤ 1000000) (hj : j = 0 ∨ 10 ^ (j - 1) ≤ N) : j ≤ 32000001 := dig_few' h hj
theorem txt_zero : txt 0 = ⟨#[48]⟩ := rfl

set_option maxRecDepth 100000 in
set_option maxHeartbeats 2000000 in
theorem rtext_any (v : Value) (xs : List Nat) (w : World) (h : Nums w v xs) (hlen : xs.length ≤ 1000000) :
    Calls Try.prog 10 #[v] w fun e w' => e = .returned (.string (txt (val xs))) ∧ Below w.heap.size w w' := by
  obtain ⟨i0, hi, hz0, hz1, hz2⟩ := info_parts Try.info33
  have hle := lim_val_length h.ok
  obtain ⟨N, hN0⟩ : ∃ N, val xs = N := ⟨_, rfl⟩
  rw [hN0] at hle ⊢
  have HN0 := hide hN0
  have HLE : Hid ((lim N).length ≤ 1000000) := hide (Nat.le_trans hle hlen)
  clear hle hN0
  go_enter Try.func10, Try.ntmps10
  go_wp2_with fail
  refine (rnorm_any v xs _ h (by omega)).mono ?_
  rintro e w1 ⟨v1, rfl, hO1, hb1⟩
  rw [HN0.out] at hO1
  have HO1 := hide (hO1.nums (ok_lim _))
  have HB1 := hide hb1
  clear h hO1 hb1 hlen
  by_cases hN : N = 0
  · subst hN
    obtain ⟨_, a, cap, rfl, _, hm, _⟩ := HO1.out
    simp only [lim_zero, List.length_nil]
    go_wp2
    go_ret
    exact ⟨by rw [txt_zero]; rfl, HB1.out⟩
  · have HNP := hide (Nat.pos_of_ne_zero hN)
    obtain ⟨_, a, cap, rfl, _, hm, _⟩ := HO1.out
    have hpl : 0 < (lim N).length := by rw [lim_pos (Nat.pos_of_ne_zero hN)]; simp
    have hpz : (((lim N).length : Int) == 0) = false := by rw [beq_eq_false_iff_ne]; omega
    clear hN hm
    go_wp2
    clear hpz hpl
    go_loopw [0, 3] (fun av sv wr => ∃ j : Nat, sv = .string (strOfNums (byts (lowd j N))) ∧ Nums wr av (lim (N / 10 ^ j)) ∧ (j = 0 ∨ 10 ^ (j - 1) ≤ N) ∧ Below w.heap.size w wr) (fun av _ wr => numOf wr av)
    case atStart => exact ⟨0, rfl, by simpa using HO1.out, .inl rfl, HB1.out⟩
    case round =>
      obtain ⟨j, rfl, hN1, hj, hbel⟩ := hrel
      obtain ⟨wo, rfl⟩ : ∃ wo, wo = wr := ⟨_, rfl⟩
      have HJ := hide hj
      have HBE := hide hbel
      have HN1 := hide hN1
      clear hj hbel
      by_cases hm0 : N / 10 ^ j = 0
      · have HM0 := hide hm0
        rw [hm0, lim_zero] at hN1
        obtain ⟨_, a', c', rfl, _, hm, _⟩ := hN1
        clear hm0 hm
        simp only [List.length_nil]
        go_wp2
        go_ret
        refine ⟨?_, HBE.out⟩
        have hp := HNP.out
        have hj0 : 0 < j := by
          rcases Nat.eq_zero_or_pos j with h | h
          · have := HM0.out; rw [h] at this; simp at this; omega
          · exact h
        have hlt : N < 10 ^ j := by
          rcases Nat.lt_or_ge N (10 ^ j) with h | h
          · exact h
          · have := Nat.div_pos h (pow_pos10 j); have := HM0.out; omega
        unfold txt
        rw [← lowd_dec hj0 hlt (by rcases HJ.out with h | h; omega; exact h)]
        rfl
      · have HM0 := hide (Nat.pos_of_ne_zero hm0)
        have HLM : Hid ((lim (N / 10 ^ j)).length ≤ 1000000) := hide (Nat.le_trans (lim_length_le (Nat.lt_of_le_of_lt (Nat.div_le_self _ _) (by have := val_lt (ok_lim N); rw [val_lim] at this; exact this))) HLE.out)
        have HDM : Hid (N / 10 ^ (j + 1) = N / 10 ^ j / 10) := hide (by rw [Nat.pow_succ, Nat.div_div_eq_div_mul])
        have HDG : Hid (10 ^ j ≤ N) := hide (by
          rcases Nat.lt_or_ge N (10 ^ j) with h | h
          · rw [Nat.div_eq_of_lt h] at hm0; exact absurd rfl hm0
          · exact h)
        obtain ⟨m, hm⟩ : ∃ m, m = N / 10 ^ j := ⟨_, rfl⟩
        have HME := hide hm
        rw [← hm] at hN1
        clear hm hm0
        rw [← HME.out] at HM0 HLM HDM HN1
        have hpl : 0 < (lim m).length := by rw [lim_pos HM0.out]; simp
        have hl6 := HLM.out
        obtain ⟨_, a', c', rfl, hlc, hmc, hcc⟩ := hN1
        obtain ⟨bA, oA, rfl, hx⟩ := hcc (ne_nil hpl)
        have HX := hide hx
        have HVL := hide (val_lim m)
        have HOK := hide (ok_lim m)
        unfold maxLen at hmc
        clear hx hcc
        generalize lim m = L at *
        go_wp2_with (at_make; refine wpList_make_full _ rfl _ _ 22 rfl wo.heap.size 33 i0 (.int .u32 0) 1 Try.underlying22 hi hz0 hz1 _ _ _ _ L.length rfl rfl ?_ ?_ ?_ ?_ (Nat.le_refl _) ?_)
        all_goals try (first | rfl | omega)
        all_goals try (rw [hz2]; omega)
        all_goals try (unfold maxLen; omega)
        intro w2 hown hgrow
        have HB2 : Hid (Below wo.heap.size wo w2) := hide ((Below.refl _ _).grown hgrow (Nat.le_refl _) (fun k hk => by simp at hk))
        have HR2 : Hid (RowC w2 wo.heap.size wo.heap.size L.length L.length (List.replicate L.length 0)) := hide (row_zero hown)
        clear hown hgrow
        go_wp2
        go_loopw [4, 6] (fun rv iv wx => ∃ (k r : Nat) (qs : List Nat), k ≤ L.length ∧ iv = .int .i64 ((k : Int) - 1) ∧ rv = .int .u64 r ∧ DivAt L 10 k r qs ∧ RowC wx wo.heap.size wo.heap.size L.length L.length ((List.replicate L.length 0).take k ++ qs) ∧ Below wo.heap.size wo wx) (fun _ iv _ => (intOf iv + 1).toNat)
        case atStart => exact ⟨L.length, 0, [], Nat.le_refl _, by go_num, rfl, DivAt.start L 10 (by decide), by simpa using HR2.out, HB2.out⟩
        case round =>
          clear HR2 HB2
          obtain ⟨k, r, qs, hk, rfl, rfl, hat, hrow, hbel⟩ := hrel
          have hr := hat.r1
          cases k with
          | zero =>
            obtain ⟨hq1, hq2⟩ := div_end hat
            have hlen : qs.length = L.length := by rw [hat.len]; omega
            rw [List.take_zero, List.nil_append] at hrow
            have HQ := hide (And.intro hq1 hq2)
            have HQN := hide (hrow.nums hlen hat.ok)
            have HBW := hide hbel
            have HQL := hide hlen
            clear hat hrow hbel hq1 hq2 hlen
            have hz1' := low_size j N
            have hz2' := digit_size r hr
            have hz3' := dig_few HLE.out HJ.out
            go_wp2_with fail
            refine (rnorm_any _ qs _ HQN.out (by have := HQL.out; omega)).mono ?_
            rintro e w3 ⟨v3, rfl, hO3, hb3⟩
            have HO3 := hide (hO3.nums (ok_lim _))
            have HB3 := hide (HBE.out.trans ((HBW.out.trans (hb3.mono HBW.out.size)).mono HBE.out.size))
            clear hO3 hb3
            go_wp2
            go_roundw
            case rel =>
              refine ⟨j + 1, by rw [digit_more r j N (by rw [← HME.out, ← HVL.out]; exact HQ.out.2)], ?_, .inr (by simpa using HDG.out), HB3.out⟩
              have := HO3.out
              rw [HQ.out.1, HVL.out, ← HDM.out] at this
              exact this
            case measure =>
              rw [HO3.out.numOf, HN1.out.numOf, val_lim, HQ.out.1, HVL.out]
              have := HM0.out
              omega
          | succ k =>
            have hx' : wr.cell? ⟨bA, oA + k, none⟩ = some (.int .u32 (lm L k : Nat)) := by
              have h0 := HX.out k (by omega)
              rw [hbel.cell (World.block_lt_of_cell? wo _ h0)]; exact h0
            have hxb := HOK.out.at k
            have HXB : Hid (lm L k < BB) := hxb
            unfold BB at hxb
            have hfr := hrow.free k
            have hcl := hrow.cell (by rw [List.length_append, List.length_take, List.length_replicate, hat.len]; omega) k (by omega)
            have HAT := hide hat
            have HRW := hide hrow
            have HBW := hide hbel
            clear hat hrow hbel
            go_wp2
            go_roundw
            case rel =>
              have e : ((r : Int) * 4294967296 + (lm L k : Int)) / ((10 : Nat) : Int) % 4294967296 = ((r : Int) * 4294967296 + (lm L k : Int)) / 10 := by omega
              have := rdiv_next HAT.out HOK.out (by omega) (by simp) HRW.out HBW.out (s := (r : Int) * 4294967296 + (lm L k : Int)) (by unfold BB; omega)
              rw [e] at this
              exact this
            case measure => simp [intOf]
end Go.Proofs.Ytmnllmonbdjnnaa
