/- limb.takeAway takes c times a number from a piece of a row, and tells whether there was enough; limb.giveBack adds the number. -/
import Derived.Test.YtjceiakgedkmcaaShiftInto
namespace Go.Proofs.Ytjceiakgedkmcaa
open Go.RowKit

structure TakeAt (P D : List Nat) (c k q b : Nat) (A : List Nat) : Prop where
  len : A.length = k
  ok : Ok A
  q1 : q < BB
  b1 : b ≤ 1
  sum : val A + c * val (D.take k) = val (P.take k) + BB ^ k * (q + b)

theorem TakeAt.zero (P D : List Nat) (c : Nat) : TakeAt P D c 0 0 0 [] := ⟨rfl, Ok.nil, BB_pos, by omega, by simp [val]⟩

theorem TakeAt.step {P D : List Nat} {c k q b d b' : Nat} {A : List Nat} (h : TakeAt P D c k q b A) (hD : lm D k < BB) (hc : c < BB) (hd : d < BB) (hb : b' ≤ 1)
    (e : d + (q + c * lm D k) % BB + b = lm P k + BB * b') : TakeAt P D c (k + 1) ((q + c * lm D k) / BB) b' (A ++ [d]) := by
  have hq := h.q1
  have hm := mul_bound _ _ hc hD
  refine ⟨by simp [h.len], h.ok.append (Ok.cons hd Ok.nil), ?_, hb, ?_⟩
  · rw [Nat.div_lt_iff_lt_mul BB_pos]; unfold BB at *; omega
  · rw [take_succ_any, take_succ_any, val_append, h.len, Nat.pow_succ]
    simp only [val, Nat.mul_zero, Nat.add_zero]
    have hs := h.sum
    have e1 := Nat.mod_add_div (q + c * lm D k) BB
    have e2 : BB ^ k * (d + (q + c * lm D k) % BB + b) = BB ^ k * (lm P k + BB * b') := by rw [e]
    have e3 : BB ^ k * ((q + c * lm D k) % BB + BB * ((q + c * lm D k) / BB)) = BB ^ k * (q + c * lm D k) := by rw [e1]
    have e4 : c * (val (D.take k) + BB ^ k * lm D k) = c * val (D.take k) + BB ^ k * (c * lm D k) := by rw [Nat.mul_add, Nat.mul_left_comm]
    have e5 : BB ^ k * BB * ((q + c * lm D k) / BB + b') = BB ^ k * (BB * ((q + c * lm D k) / BB)) + BB ^ k * (BB * b') := by rw [Nat.mul_assoc, Nat.mul_add, Nat.mul_add]
    rw [Nat.mul_add, Nat.mul_add, Nat.mul_add] at e2
    rw [Nat.mul_add, Nat.mul_add] at e3
    rw [Nat.mul_add] at hs
    rw [e4, e5]
    omega

theorem take_words (p low b : Nat) (hp : p < 4294967296) (hl : low < 4294967296) (hb : b ≤ 1) :
    ∃ d b' : Nat, d < BB ∧ b' ≤ 1 ∧ d + low + b = p + BB * b' ∧ IntKind.u64.wrap (IntKind.u64.wrap ((p : Int) - (low : Int)) - (b : Int)) / 9223372036854775808 = (b' : Int) ∧ IntKind.u64.wrap (IntKind.u64.wrap ((p : Int) - (low : Int)) - (b : Int)) % 4294967296 = (d : Int) := by
  rw [IntKind.wrap_u64, IntKind.wrap_u64]
  unfold BB
  by_cases h : low + b ≤ p
  · exact ⟨p - low - b, 0, by omega, by omega, by omega, by omega, by omega⟩
  · exact ⟨p + 4294967296 - low - b, 1, by omega, by omega, by omega, by omega, by omega⟩

theorem take_next {w wr : World} {base g N cap c k q b d b' : Nat} {P D A R1 R2 : List Nat} {t u : Int} (hat : TakeAt P D c k q b A) (hD : lm D k < BB) (hc : c < BB) (hlt : k < D.length) (hP : P.length = D.length + 1)
    (hsg : Seg wr base g N cap (R1 ++ ((A ++ P.drop k) ++ R2))) (hgb : w.grownBy wr (some g)) (ht : t = ((q + c * lm D k : Nat) : Int)) (hd : d < BB) (hb : b' ≤ 1) (e : d + (q + c * lm D k) % BB + b = lm P k + BB * b')
    (e1 : u / 9223372036854775808 = (b' : Int)) (e2 : u % 4294967296 = (d : Int)) :
    ∃ (k' q' c' : Nat) (A' : List Nat), k' ≤ D.length ∧ Value.int .i64 (↑k + 1) = .int .i64 k' ∧ Value.int .u64 (t / 4294967296) = .int .u64 q' ∧ Value.int .u64 (u / 9223372036854775808) = .int .u64 c' ∧ TakeAt P D c k' q' c' A' ∧
      Seg (wr.setCell ⟨g, R1.length + k, none⟩ (.int .u32 (u % 4294967296))) base g N cap (R1 ++ ((A' ++ P.drop k') ++ R2)) ∧ w.grownBy (wr.setCell ⟨g, R1.length + k, none⟩ (.int .u32 (u % 4294967296))) (some g) := by
  have e3 : t / 4294967296 = (((q + c * lm D k) / BB : Nat) : Int) := by subst ht; unfold BB; omega
  refine ⟨k + 1, _, _, _, hlt, by go_num, by rw [e3], by rw [e1], hat.step hD hc hd hb e, ?_, ?_⟩
  · rw [e2]; exact hsg.set _ _ (mid_set R1 A P R2 k _ hat.len (by omega))
  · exact gb_set hgb _ _

theorem take_last {P D A : List Nat} {c q b d b' : Nat} (h : TakeAt P D c D.length q b A) (hP : P.length = D.length + 1) (e : d + q + b = lm P D.length + BB * b') :
    val (A ++ [d]) + c * val D = val P + BB ^ (D.length + 1) * b' := by
  have hs := h.sum
  rw [List.take_length] at hs
  have e1 : val P = val (P.take D.length) + BB ^ D.length * lm P D.length := by rw [← take_succ_any, List.take_of_length_le (by omega)]
  have e2 : BB ^ D.length * (d + q + b) = BB ^ D.length * (lm P D.length + BB * b') := by rw [e]
  rw [val_append, h.len, Nat.pow_succ, e1]
  simp only [val, Nat.mul_zero, Nat.add_zero]
  rw [Nat.mul_add, Nat.mul_add, Nat.mul_add, ← Nat.mul_assoc] at e2
  rw [Nat.mul_add] at hs
  omega

set_option maxRecDepth 100000 in
set_option maxHeartbeats 1000000 in
theorem takeAway_any (vb : Value) (D : List Nat) (base g N cap c' c : Nat) (R1 P R2 : List Nat) (w : World) (h : Nums w vb D) (hap : Apart vb D g) (hc : c < 4294967296) (hOP : Ok P)
    (hseg : Seg w base g N cap (R1 ++ (P ++ R2))) (hP : P.length = D.length + 1) :
    Calls Try.prog 110 #[.slice (some ⟨g, R1.length, none⟩) (D.length + 1) c', vb, .int .u32 c] w fun e w' =>
      ∃ (P' : List Nat) (b : Nat), b ≤ 1 ∧ e = .returned (.bool (decide (b = 0))) ∧ P'.length = D.length + 1 ∧ Ok P' ∧ val P' + c * val D = val P + BB ^ (D.length + 1) * b ∧ Seg w' base g N cap (R1 ++ (P' ++ R2)) ∧ w.grownBy w' (some g) := by
  have HOK := hide h.ok
  have HCB : Hid (c < BB) := hc
  have HL : Hid (R1.length + (D.length + 1 + R2.length) = N) := by have := hseg.2; rw [List.length_append, List.length_append, hP] at this; exact this
  have hl : R1.length + D.length + 1 ≤ N := by have := HL.out; omega
  obtain ⟨ho, a, cap1, rfl, hl1, hm1, hc1⟩ := h
  have HC := hide hc1
  have HAP := hide hap
  have HP := hide hP
  have HOP := hide hOP
  clear hc1 hap hP
  unfold maxLen at hm1
  go_enter Try.func110, Try.ntmps110
  go_wp2
  go_loopw [7, 8, 15] (fun qv bv iv wr => ∃ (k q b : Nat) (A : List Nat), k ≤ D.length ∧ iv = .int .i64 k ∧ qv = .int .u64 q ∧ bv = .int .u64 b ∧ TakeAt P D c k q b A ∧ Seg wr base g N cap (R1 ++ ((A ++ P.drop k) ++ R2)) ∧ w.grownBy wr (some g)) (fun _ _ iv _ => D.length - (intOf iv).toNat)
  case atStart => exact ⟨0, 0, 0, [], Nat.zero_le _, rfl, rfl, rfl, TakeAt.zero _ _ _, by simpa using hseg, World.grownBy.refl _ _⟩
  case round =>
    clear hseg
    obtain ⟨k, q, b, A, hk, rfl, rfl, rfl, hat, hsg, hgb⟩ := hrel
    have hq := hat.q1
    have hbb := hat.b1
    unfold BB at hq
    by_cases hlt : k < D.length
    · obtain ⟨bb, off, rfl, hx⟩ := HC.out (ne_nil hlt)
      have hbg : bb ≠ g := HAP.out (ne_nil hlt) _ _ _ rfl
      have hx' : wr.cell? ⟨bb, off + k, none⟩ = some (.int .u32 (lm D k : Nat)) := hgb.cell (hx k hlt) (by simpa using hbg)
      have hxb := HOK.out.at k
      obtain ⟨hm0, hmm⟩ := mul_boundI c (lm D k) HCB.out hxb
      have hpb := HOP.out.at k
      unfold BB at hxb hpb
      have hf := hsg.free (R1.length + k)
      have hcl := hsg.cell (R1.length + k) (by omega)
      rw [mid_lm R1 A P R2 k hat.len (by rw [HP.out]; omega)] at hcl
      have HW := hide (take_words (lm P k) ((q + c * lm D k) % BB) b hpb (Nat.mod_lt _ BB_pos) hbb)
      have HAT := hide hat
      have HSG := hide hsg
      have HGB := hide hgb
      clear hat hsg hgb hx
      go_wp2
      obtain ⟨d, b', hd, hb', e, e1, e2⟩ := HW.out
      have em : (((q + c * lm D k) % BB : Nat) : Int) = ((q : Int) + (c : Int) * (lm D k : Int)) % 4294967296 := by rw [← Int.natCast_mul]; unfold BB; omega
      rw [em] at e1 e2
      refine ⟨take_next HAT.out (HOK.out.at k) HCB.out hlt HP.out HSG.out HGB.out (by rw [Int.natCast_add, Int.natCast_mul]) hd hb' e e1 e2, ?_⟩
      simp [intOf]; omega
    · have hkL : k = D.length := by omega
      subst hkL
      have hpb := HOP.out.at D.length
      unfold BB at hpb
      have hf := hsg.free (R1.length + D.length)
      have hcl := hsg.cell (R1.length + D.length) (by omega)
      rw [mid_lm R1 A P R2 D.length hat.len (by rw [HP.out]; omega)] at hcl
      have HW := hide (take_words (lm P D.length) q b hpb hq hbb)
      have HAT := hide hat
      have HSG := hide hsg
      have HGB := hide hgb
      clear hat hsg hgb
      go_wp2
      go_ret
      obtain ⟨d, b', hd, hb', e, e1, e2⟩ := HW.out
      refine ⟨A ++ [d], b', hb', ?_, by rw [List.length_append, HAT.out.len]; rfl, HAT.out.ok.append (Ok.cons hd Ok.nil), take_last HAT.out HP.out e, ?_, ?_⟩
      · refine congrArg Ending.returned (congrArg Value.bool ?_)
        rw [e1, Bool.eq_iff_iff]; simp
      · have := HSG.out.set (R1.length + D.length) d (mid_set R1 A P R2 D.length d HAT.out.len (by rw [HP.out]; omega))
        rw [List.drop_eq_nil_of_le (by rw [HP.out]; exact Nat.le_refl _), List.append_nil] at this
        rw [e2]; exact this
      · exact gb_set HGB.out _ _

/-- a sum that may wrap round -/
structure GiveAt (P D : List Nat) (k q : Nat) (A : List Nat) : Prop where
  len : A.length = k
  ok : Ok A
  q1 : q ≤ 1
  sum : val A + BB ^ k * q = val (P.take k) + val (D.take k)

theorem GiveAt.zero (P D : List Nat) : GiveAt P D 0 0 [] := ⟨rfl, Ok.nil, by omega, by simp [val]⟩
theorem GiveAt.step {P D : List Nat} {k q : Nat} {A : List Nat} (h : GiveAt P D k q A) (hP : lm P k < BB) (hD : lm D k < BB) : GiveAt P D (k + 1) ((q + lm P k + lm D k) / BB) (A ++ [(q + lm P k + lm D k) % BB]) := by
  have h3 := h.q1
  refine ⟨by simp [h.len], h.ok.append (Ok.cons (Nat.mod_lt _ BB_pos) Ok.nil), ?_, ?_⟩
  · have : (q + lm P k + lm D k) / BB < 2 := by rw [Nat.div_lt_iff_lt_mul BB_pos]; omega
    omega
  · rw [take_succ_any, take_succ_any, val_append, h.len, Nat.pow_succ]
    simp only [val, Nat.mul_zero, Nat.add_zero]
    exact add_math h.sum

theorem give_next {w wr : World} {base g N cap k q : Nat} {P D A R1 R2 : List Nat} {t : Int} (hat : GiveAt P D k q A) (hPk : lm P k < BB) (hD : lm D k < BB) (hlt : k < D.length) (hP : P.length = D.length + 1)
    (hsg : Seg wr base g N cap (R1 ++ ((A ++ P.drop k) ++ R2))) (hgb : w.grownBy wr (some g)) (ht : t = ((q + lm P k + lm D k : Nat) : Int)) :
    ∃ (k' q' : Nat) (A' : List Nat), k' ≤ D.length ∧ Value.int .i64 (↑k + 1) = .int .i64 k' ∧ Value.int .u64 (t / 4294967296) = .int .u64 q' ∧ GiveAt P D k' q' A' ∧
      Seg (wr.setCell ⟨g, R1.length + k, none⟩ (.int .u32 (t % 4294967296))) base g N cap (R1 ++ ((A' ++ P.drop k') ++ R2)) ∧ w.grownBy (wr.setCell ⟨g, R1.length + k, none⟩ (.int .u32 (t % 4294967296))) (some g) := by
  have e1 : t / 4294967296 = (((q + lm P k + lm D k) / BB : Nat) : Int) := by subst ht; unfold BB; omega
  have e2 : t % 4294967296 = (((q + lm P k + lm D k) % BB : Nat) : Int) := by subst ht; unfold BB; omega
  refine ⟨k + 1, _, _, hlt, by go_num, by rw [e1], hat.step hPk hD, ?_, ?_⟩
  · rw [e2]; exact hsg.set _ _ (mid_set R1 A P R2 k _ hat.len (by omega))
  · exact gb_set hgb _ _

theorem give_last {P D A : List Nat} {q d o : Nat} (h : GiveAt P D D.length q A) (hP : P.length = D.length + 1) (e : d + BB * o = lm P D.length + q) :
    val (A ++ [d]) + BB ^ (D.length + 1) * o = val P + val D := by
  have hs := h.sum
  rw [List.take_length] at hs
  have e1 : val P = val (P.take D.length) + BB ^ D.length * lm P D.length := by rw [← take_succ_any, List.take_of_length_le (by omega)]
  have e2 : BB ^ D.length * (d + BB * o) = BB ^ D.length * (lm P D.length + q) := by rw [e]
  rw [val_append, h.len, Nat.pow_succ, e1]
  simp only [val, Nat.mul_zero, Nat.add_zero]
  rw [Nat.mul_add, Nat.mul_add, ← Nat.mul_assoc] at e2
  omega

set_option maxRecDepth 100000 in
set_option maxHeartbeats 1000000 in
theorem giveBack_any (vb : Value) (D : List Nat) (base g N cap c' : Nat) (R1 P R2 : List Nat) (w : World) (h : Nums w vb D) (hap : Apart vb D g) (hOP : Ok P)
    (hseg : Seg w base g N cap (R1 ++ (P ++ R2))) (hP : P.length = D.length + 1) :
    Calls Try.prog 111 #[.slice (some ⟨g, R1.length, none⟩) (D.length + 1) c', vb] w fun e w' => e = .returned (.tuple #[]) ∧
      ∃ (P' : List Nat) (o : Nat), P'.length = D.length + 1 ∧ Ok P' ∧ val P' + BB ^ (D.length + 1) * o = val P + val D ∧ Seg w' base g N cap (R1 ++ (P' ++ R2)) ∧ w.grownBy w' (some g) := by
  have HOK := hide h.ok
  have HL : Hid (R1.length + (D.length + 1 + R2.length) = N) := by have := hseg.2; rw [List.length_append, List.length_append, hP] at this; exact this
  have hl : R1.length + D.length + 1 ≤ N := by have := HL.out; omega
  obtain ⟨ho, a, cap1, rfl, hl1, hm1, hc1⟩ := h
  have HC := hide hc1
  have HAP := hide hap
  have HP := hide hP
  have HOP := hide hOP
  clear hc1 hap hP
  unfold maxLen at hm1
  go_enter Try.func111, Try.ntmps111
  go_wp2
  go_loopw [4, 9] (fun qv iv wr => ∃ (k q : Nat) (A : List Nat), k ≤ D.length ∧ iv = .int .i64 k ∧ qv = .int .u64 q ∧ GiveAt P D k q A ∧ Seg wr base g N cap (R1 ++ ((A ++ P.drop k) ++ R2)) ∧ w.grownBy wr (some g)) (fun _ iv _ => D.length - (intOf iv).toNat)
  case atStart => exact ⟨0, 0, [], Nat.zero_le _, rfl, rfl, GiveAt.zero _ _, by simpa using hseg, World.grownBy.refl _ _⟩
  case round =>
    clear hseg
    obtain ⟨k, q, A, hk, rfl, rfl, hat, hsg, hgb⟩ := hrel
    have hq := hat.q1
    by_cases hlt : k < D.length
    · obtain ⟨bb, off, rfl, hx⟩ := HC.out (ne_nil hlt)
      have hbg : bb ≠ g := HAP.out (ne_nil hlt) _ _ _ rfl
      have hx' : wr.cell? ⟨bb, off + k, none⟩ = some (.int .u32 (lm D k : Nat)) := hgb.cell (hx k hlt) (by simpa using hbg)
      have hxb := HOK.out.at k
      have hpb := HOP.out.at k
      unfold BB at hxb hpb
      have hf := hsg.free (R1.length + k)
      have hcl := hsg.cell (R1.length + k) (by omega)
      rw [mid_lm R1 A P R2 k hat.len (by rw [HP.out]; omega)] at hcl
      have HAT := hide hat
      have HSG := hide hsg
      have HGB := hide hgb
      clear hat hsg hgb hx
      go_wp2
      refine ⟨give_next HAT.out hpb hxb hlt HP.out HSG.out HGB.out (by omega), ?_⟩
      simp [intOf]; omega
    · have hkL : k = D.length := by omega
      subst hkL
      have hpb := HOP.out.at D.length
      unfold BB at hpb
      have hf := hsg.free (R1.length + D.length)
      have hcl := hsg.cell (R1.length + D.length) (by omega)
      rw [mid_lm R1 A P R2 D.length hat.len (by rw [HP.out]; omega)] at hcl
      have HAT := hide hat
      have HSG := hide hsg
      have HGB := hide hgb
      clear hat hsg hgb
      have HEQ : Hid (((lm P D.length : Int) + (q : Int)) % 4294967296 = (((lm P D.length + q) % BB : Nat) : Int)) := by show _ = _; unfold BB; omega
      go_wp2
      go_end0
      refine ⟨rfl, A ++ [(lm P D.length + q) % BB], (lm P D.length + q) / BB, by rw [List.length_append, HAT.out.len]; rfl, HAT.out.ok.append (Ok.cons (Nat.mod_lt _ BB_pos) Ok.nil), give_last HAT.out HP.out (Nat.mod_add_div _ _), ?_, ?_⟩
      · have := HSG.out.set (R1.length + D.length) ((lm P D.length + q) % BB) (mid_set R1 A P R2 D.length _ HAT.out.len (by rw [HP.out]; omega))
        rw [List.drop_eq_nil_of_le (by rw [HP.out]; exact Nat.le_refl _), List.append_nil] at this
        rw [HEQ.out]; exact this
      · exact gb_set HGB.out _ _
end Go.Proofs.Ytjceiakgedkmcaa
