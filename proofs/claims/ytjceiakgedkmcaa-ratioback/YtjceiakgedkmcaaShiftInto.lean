/- limb.shiftInto writes a number, shifted up by less than a limb, into a piece of a row. -/
import Derived.Test.YtjceiakgedkmcaaSeg
import Derived.Laws.Bits64b
namespace Go.Proofs.Ytjceiakgedkmcaa
open Go.RowKit

/-- a slice's cells lie in another block -/
def Apart (v : Value) (xs : List Nat) (g : Nat) : Prop := xs ≠ [] → ∀ ad n c, v = .slice (some ad) n c → ad.block ≠ g

structure ShlAt (xs : List Nat) (s k q : Nat) (A : List Nat) : Prop where
  len : A.length = k
  ok : Ok A
  q1 : q < 2 ^ s
  sum : val A + BB ^ k * q = 2 ^ s * val (xs.take k)

theorem ShlAt.zero (xs : List Nat) (s : Nat) : ShlAt xs s 0 0 [] := ⟨rfl, Ok.nil, Nat.two_pow_pos s, by simp [val]⟩

theorem ShlAt.step {xs : List Nat} {s k q : Nat} {A : List Nat} (h : ShlAt xs s k q A) (hx : lm xs k < BB) :
    ShlAt xs s (k + 1) ((q + lm xs k * 2 ^ s) / BB) (A ++ [(q + lm xs k * 2 ^ s) % BB]) := by
  have hq := h.q1
  refine ⟨by simp [h.len], h.ok.append (Ok.cons (Nat.mod_lt _ BB_pos) Ok.nil), ?_, ?_⟩
  · rw [Nat.div_lt_iff_lt_mul BB_pos]
    have : (lm xs k + 1) * 2 ^ s ≤ BB * 2 ^ s := Nat.mul_le_mul_right _ hx
    rw [Nat.add_mul, Nat.one_mul] at this
    rw [Nat.mul_comm (2 ^ s) BB]; omega
  · rw [take_succ_any, val_append, h.len, Nat.pow_succ]
    simp only [val, Nat.mul_zero, Nat.add_zero]
    have hs := h.sum
    have e : BB ^ k * ((q + lm xs k * 2 ^ s) % BB) + BB ^ k * BB * ((q + lm xs k * 2 ^ s) / BB) = BB ^ k * (q + lm xs k * 2 ^ s) := by
      rw [Nat.mul_assoc, ← Nat.mul_add, Nat.mod_add_div]
    have e2 : BB ^ k * (q + lm xs k * 2 ^ s) = BB ^ k * q + BB ^ k * (lm xs k * 2 ^ s) := Nat.mul_add _ _ _
    have e3 : 2 ^ s * (val (xs.take k) + BB ^ k * lm xs k) = 2 ^ s * val (xs.take k) + BB ^ k * (lm xs k * 2 ^ s) := by
      rw [Nat.mul_add, Nat.mul_left_comm, Nat.mul_comm (2 ^ s) (lm xs k)]
    omega

theorem shl_word (q x s : Nat) (hq : q < 2 ^ s) (hx : x < 4294967296) (hs : s < 32) : bits .or .u64 (q : Int) (IntKind.u64.wrap ((x : Int) * 2 ^ s)) = ((q + x * 2 ^ s : Nat) : Int) := by
  have hp : 2 ^ s ≤ 4294967296 := Nat.le_trans (Nat.pow_le_pow_right (by decide) (show s ≤ 32 by omega)) (by decide)
  have hm : x * 2 ^ s ≤ 4294967295 * 4294967296 := Nat.mul_le_mul (by omega) hp
  have e1 : (x : Int) * 2 ^ s = ((x * 2 ^ s : Nat) : Int) := by rw [Int.natCast_mul, Int.natCast_pow]; rfl
  have e2 : IntKind.u64.wrap ((x * 2 ^ s : Nat) : Int) = ((x * 2 ^ s : Nat) : Int) := by rw [IntKind.wrap_u64]; omega
  rw [e1, e2, bits_or_u64_nat q (x * 2 ^ s) (by omega) (by omega)]
  congr 1
  have := Nat.two_pow_add_eq_or_of_lt (i := s) (b := q) hq x
  rw [Nat.or_comm, Nat.mul_comm x, ← this]; omega

theorem shl_next {w wr : World} {base g N cap s k q : Nat} {xs A R1 P R2 : List Nat} {t : Int} (hat : ShlAt xs s k q A) (hx : lm xs k < BB) (hlt : k < xs.length) (hP : P.length = xs.length + 1)
    (hsg : Seg wr base g N cap (R1 ++ ((A ++ P.drop k) ++ R2))) (hgb : w.grownBy wr (some g)) (ht : t = ((q + lm xs k * 2 ^ s : Nat) : Int)) :
    ∃ (k' q' : Nat) (A' : List Nat), k' ≤ xs.length ∧ Value.int .i64 (↑k + 1) = .int .i64 k' ∧ Value.int .u64 (t / 4294967296) = .int .u64 q' ∧ ShlAt xs s k' q' A' ∧
      Seg (wr.setCell ⟨g, R1.length + k, none⟩ (.int .u32 (t % 4294967296))) base g N cap (R1 ++ ((A' ++ P.drop k') ++ R2)) ∧ w.grownBy (wr.setCell ⟨g, R1.length + k, none⟩ (.int .u32 (t % 4294967296))) (some g) := by
  have e1 : t / 4294967296 = (((q + lm xs k * 2 ^ s) / BB : Nat) : Int) := by subst ht; unfold BB; omega
  have e2 : t % 4294967296 = (((q + lm xs k * 2 ^ s) % BB : Nat) : Int) := by subst ht; unfold BB; omega
  refine ⟨k + 1, _, _, hlt, by go_num, by rw [e1], hat.step hx, ?_, ?_⟩
  · rw [e2]; exact hsg.set _ _ (mid_set R1 A P R2 k _ hat.len (by omega))
  · exact gb_set hgb _ _

set_option maxRecDepth 100000 in
set_option maxHeartbeats 1000000 in
theorem shiftInto_any (va : Value) (xs : List Nat) (base g N cap c' s : Nat) (R1 P R2 : List Nat) (w : World) (h : Nums w va xs) (hap : Apart va xs g) (hs : s < 32)
    (hseg : Seg w base g N cap (R1 ++ (P ++ R2))) (hP : P.length = xs.length + 1) (_hN : N ≤ 4000000000) :
    Calls Try.prog 108 #[.slice (some ⟨g, R1.length, none⟩) (xs.length + 1) c', va, .int .i64 s] w fun e w' => e = .returned (.tuple #[]) ∧
      ∃ P', P'.length = xs.length + 1 ∧ Ok P' ∧ val P' = val xs * 2 ^ s ∧ Seg w' base g N cap (R1 ++ (P' ++ R2)) ∧ w.grownBy w' (some g) := by
  have HOK := hide h.ok
  have HL : Hid (R1.length + (xs.length + 1 + R2.length) = N) := by have := hseg.2; rw [List.length_append, List.length_append, hP] at this; exact this
  have hl : R1.length + xs.length + 1 ≤ N := by have := HL.out; omega
  obtain ⟨ho, a, cap1, rfl, hl1, hm1, hc1⟩ := h
  have HC := hide hc1
  have HAP := hide hap
  have HP := hide hP
  clear hc1 hap hP
  unfold maxLen at hm1
  go_enter Try.func108, Try.ntmps108
  go_wp2
  go_loopw [6, 11] (fun qv iv wr => ∃ (k q : Nat) (A : List Nat), k ≤ xs.length ∧ iv = .int .i64 k ∧ qv = .int .u64 q ∧ ShlAt xs s k q A ∧ Seg wr base g N cap (R1 ++ ((A ++ P.drop k) ++ R2)) ∧ w.grownBy wr (some g)) (fun _ iv _ => xs.length - (intOf iv).toNat)
  case atStart => exact ⟨0, 0, [], Nat.zero_le _, rfl, rfl, ShlAt.zero _ _, by simpa using hseg, World.grownBy.refl _ _⟩
  case round =>
    clear hseg
    obtain ⟨k, q, A, hk, rfl, rfl, hat, hsg, hgb⟩ := hrel
    have hq := hat.q1
    have hq32 : q < 4294967296 := Nat.lt_of_lt_of_le hq (Nat.pow_le_pow_right (by decide) (show s ≤ 32 by omega))
    have HQ := hide hq
    clear hq
    by_cases hlt : k < xs.length
    · obtain ⟨b, off, rfl, hx⟩ := HC.out (ne_nil hlt)
      have hbg : b ≠ g := HAP.out (ne_nil hlt) _ _ _ rfl
      have hx' : wr.cell? ⟨b, off + k, none⟩ = some (.int .u32 (lm xs k : Nat)) := hgb.cell (hx k hlt) (by simpa using hbg)
      have hxb := HOK.out.at k
      unfold BB at hxb
      have hf := hsg.free (R1.length + k)
      have hcl := hsg.cell (R1.length + k) (by omega)
      rw [mid_lm R1 A P R2 k hat.len (by rw [HP.out]; omega)] at hcl
      have HAT := hide hat
      have HSG := hide hsg
      have HGB := hide hgb
      clear hat hsg hgb hx
      have HW := hide (shl_word q (lm xs k) s HQ.out hxb hs)
      go_wp2
      refine ⟨shl_next HAT.out (HOK.out.at k) hlt HP.out HSG.out HGB.out HW.out, ?_⟩
      simp [intOf]; omega
    · have hkL : k = xs.length := by omega
      subst hkL
      have hf := hsg.free (R1.length + xs.length)
      have hcl := hsg.cell (R1.length + xs.length) (by omega)
      have hset := hsg.set (R1.length + xs.length) q (mid_set R1 A P R2 xs.length q hat.len (by rw [HP.out]; omega))
      rw [List.drop_eq_nil_of_le (by rw [HP.out]; exact Nat.le_refl _), List.append_nil] at hset
      have HSET := hide hset
      have HGB := hide (gb_set hgb (R1.length + xs.length) (.int .u32 (q : Nat)))
      have HAT := hide hat
      clear hset hsg hgb hat
      go_wp2
      go_end0
      refine ⟨rfl, A ++ [q], by rw [List.length_append, HAT.out.len]; rfl, HAT.out.ok.append (Ok.cons hq32 Ok.nil), ?_, HSET.out, HGB.out⟩
      have hsum := HAT.out.sum
      rw [List.take_length] at hsum
      rw [val_append, HAT.out.len]; simp only [val, Nat.mul_zero, Nat.add_zero]
      rw [hsum, Nat.mul_comm]
end Go.Proofs.Ytjceiakgedkmcaa
