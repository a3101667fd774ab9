/- integer.Int's Pow. -/
import Derived.Test.YteogbhgogiaocaaDoorIBits
import Derived.Test.YteogbhgogiaocaaDoorIRead
import Derived.Deep.Cut
import Derived.Laws.BitsAllLaws
namespace Go.Proofs.YteogbhgogiaocaaDoor
open Go.RowKit

theorem ipow_add (x : Int) (a b : Nat) : x ^ (a + b) = x ^ a * x ^ b := by
  induction b with
  | zero => simp
  | succ b ih => rw [← Nat.add_assoc, Int.pow_succ, ih, Int.pow_succ, Int.mul_assoc]
theorem pow_len {n L E f K : Nat} (h : IsLen n L) (hE : L = 0 ∨ E ≤ 65536 / L) (hf : f ≤ E) (hK : 65536 < 32 * K) : (lim (n ^ f)).length ≤ K := by
  refine lim_length_le ?_
  have hB : BB ^ K = 2 ^ (32 * K) := by rw [show BB = 2 ^ 32 from rfl, ← Nat.pow_mul]
  rw [hB]
  have h1 : n ^ f ≤ 2 ^ (L * f) := by rw [Nat.pow_mul]; exact Nat.pow_le_pow_left (Nat.le_of_lt h.1) f
  have h2 : L * f ≤ 65536 := by
    rcases hE with e | e
    · rw [e]; omega
    · exact Nat.le_trans (Nat.mul_le_mul_left L (Nat.le_trans hf e)) (Nat.mul_div_le 65536 L)
  exact Nat.lt_of_le_of_lt h1 (Nat.pow_lt_pow_right (by decide) (by omega))
theorem ipow_len {x : Int} {L E f : Nat} (h : IsLen x.natAbs L) (hE : L = 0 ∨ E ≤ 65536 / L) (hf : f ≤ E) : (lim (x ^ f).natAbs).length ≤ 1000000000 := by
  rw [Int.natAbs_pow]
  exact Nat.le_trans (pow_len (K := 2050) h hE hf (by decide)) (by decide)
theorem half_step (E k : Nat) : E / 2 ^ k = E / 2 ^ (k + 1) + E / 2 ^ (k + 1) + E / 2 ^ k % 2 := by
  rw [Nat.pow_succ, ← Nat.div_div_eq_div_mul]; omega
theorem half_le (E k : Nat) : E / 2 ^ (k + 1) + E / 2 ^ (k + 1) ≤ E := by
  have := half_step E k
  have h2 := Nat.div_le_self E (2 ^ k)
  omega
theorem and_one64 (n : Int) : bits .and .i64 n 1 = n % 2 := by
  have h1 : (BitVec.ofInt 64 1).toNat = 2 ^ 1 - 1 := by decide
  have key : (BitVec.ofInt 64 n &&& BitVec.ofInt 64 1).toNat = (n % ((2 ^ 64 : Nat) : Int)).toNat % 2 ^ 1 := by
    rw [BitVec.toNat_and, BitVec.toNat_ofInt, h1, Nat.and_two_pow_sub_one_eq_mod]
  show IntKind.i64.wrap ((BitVec.ofInt 64 n &&& BitVec.ofInt 64 1).toNat : Nat) = n % 2
  rw [key, IntKind.wrap_i64]
  omega
theorem shr_bit (E k : Nat) : bits .and .i64 ((E : Int) / 2 ^ k) 1 = ((E / 2 ^ k % 2 : Nat) : Int) := by
  have e : ((E : Int) / 2 ^ k) = ((E / 2 ^ k : Nat) : Int) := by rw [Int.natCast_ediv, Int.natCast_pow]; rfl
  rw [and_one64, e]
  omega
theorem quo_cast (L : Nat) : ((65536 / L : Nat) : Int) = 65536 / (L : Int) := by rw [Int.natCast_ediv]; rfl
/-- what Pow answers -/
def IPw (x e z a : Int) (L : Nat) : Prop := (e < 0 ∧ z = 0 ∧ a = 2) ∨ (0 ≤ e ∧ 0 < L ∧ ((65536 / L : Nat) : Int) < e ∧ z = 0 ∧ a = 3) ∨ (0 ≤ e ∧ (L = 0 ∨ e ≤ ((65536 / L : Nat) : Int)) ∧ z = x ^ e.toNat ∧ a = 0)
def IPwP (x e : Int) (w : World) (r : Ending) (w' : World) : Prop := ∃ (v : Value) (z a : Int) (L : Nat), r = .returned (.tuple #[v, .int .i64 a]) ∧ IntAt w' v z ∧ IsLen x.natAbs L ∧ L ≤ 32 * (lim x.natAbs).length ∧ IPw x e z a L ∧ Below w.heap.size w w'

set_option maxRecDepth 100000 in
set_option maxHeartbeats 8000000 in
theorem ipow_any (v : Value) (x e : Int) (w : World) (h : IntAt w v x) (l1 : (lim x.natAbs).length ≤ 1000000) (hlo : -9223372036854775808 ≤ e) (hhi : e ≤ 9223372036854775807) :
    Calls Tryd.prog 10 #[v, .int .i64 e] w fun r w' => IPwP x e w r w' := by
  obtain ⟨b1, a1, L1, c1, rfl, i1⟩ := h.cells
  have HE := hide (boxes2 w (.bool b1) (.slice a1 L1 c1) (.bool false) (.slice none 0 0))
  have I1 := hide (i1.below HE.out.2.2)
  have P0 := hide HE.out.1
  have P1 := hide HE.out.2.1
  have HB := hide HE.out.2.2
  have LX := hide l1
  clear h i1 HE
  have p0 := P0.out.cell0
  have p1 := P0.out.cell1
  go_enter Tryd.func10, Tryd.ntmps10
  go_wp2_with fail
  refine (ibits_any _ x _ I1.out (by omega)).mono ?_
  rintro r w1 ⟨L, rfl, hL, hLb, hb⟩
  replace HB := hide (HB.out.trans (hb.mono HB.out.size))
  replace P0 := hide (P0.out.step hb)
  replace P1 := hide (P1.out.step hb)
  replace I1 := hide (I1.out.below hb)
  have HL := hide hL
  have HLB := hide hLb
  have hLs : L ≤ 32000000 := by omega
  clear hb hL hLb p0 p1 l1
  have hc0 := P1.out.cell0
  have hc1 := P1.out.cell1
  have hf0 := P1.out.free 0
  have hf1 := P1.out.free 1
  by_cases he : e < 0
  · go_wp2
    refine ret_one rfl (w.heap.size + 1) _ _ rfl (P1.out.put _ _) rfl ?_
    unfold IPwP
    exact ⟨_, 0, 2, L, rfl, int_zero _, HL.out, HLB.out, Or.inl ⟨he, rfl, rfl⟩, below_put HB.out (Nat.le_succ _) _ _⟩
  obtain ⟨E, hE⟩ : ∃ E : Nat, e = (E : Int) := ⟨e.toNat, by omega⟩
  subst hE
  have hEb : E ≤ 9223372036854775807 := by omega
  clear he hlo hhi
  by_cases hlong : 0 < L ∧ 65536 / L < E
  · obtain ⟨hl1, hl2⟩ := hlong
    have hl3 : (65536 : Int) / (L : Int) < (E : Int) := by have := quo_cast L; omega
    go_wp2
    refine ret_one rfl (w.heap.size + 1) _ _ rfl (P1.out.put _ _) rfl ?_
    unfold IPwP
    exact ⟨_, 0, 3, L, rfl, int_zero _, HL.out, HLB.out, Or.inr (.inl ⟨by omega, hl1, by have := quo_cast L; omega, rfl, rfl⟩), below_put HB.out (Nat.le_succ _) _ _⟩
  have HFIT : Hid (L = 0 ∨ E ≤ 65536 / L) := hide (by omega)
  clear hc0 hc1 hf0 hf1
  by_cases hL0 : L = 0
  · subst hL0
    clear hlong
    go_wp2_with fail
    refine (iof_any 1 _ (by decide) (by decide)).mono ?_
    rintro r w2 ⟨v2, rfl, n2, hb⟩
    obtain ⟨s2, m2, k2, d2, rfl, n2⟩ := n2.cells
    replace HB := hide (HB.out.trans (hb.mono HB.out.size))
    replace P0 := hide (P0.out.step hb)
    replace P1 := hide (P1.out.step hb)
    replace I1 := hide (I1.out.below hb)
    clear hb
    go_upto_region 7 with fail
    have al := below_alloc w2 (.cells #[.bool s2, .slice m2 k2 d2] 25)
    have PP := hide (Box.new w2 (.bool s2) (.slice m2 k2 d2))
    have LTP : Hid (w.heap.size + 1 < w2.heap.size) := hide P1.out.lt
    replace HB := hide (HB.out.trans (al.mono HB.out.size))
    replace P0 := hide (P0.out.step al)
    replace P1 := hide (P1.out.step al)
    replace I1 := hide (I1.out.below al)
    have IP := hide (n2.below al)
    clear al n2
    generalize w2.alloc (.cells #[.bool s2, .slice m2 k2 d2] 25) = w3 at *
    generalize w2.heap.size = gp at *
    have hw : IntKind.u64.wrap (E : Int) = (E : Int) := by rw [IntKind.wrap_u64]; omega
    go_wp2_with fail
    refine (len_any (E : Int) _ (by omega) (by omega)).mono ?_
    rintro r w4 ⟨N, rfl, hN, hNb, rfl⟩
    have HN := hide hN
    clear hN hw
    rw [Int.toNat_natCast] at HN
    go_wp2
    go_loopw [8] (fun kv wr => ∃ (k : Nat) (s : Bool) (m : Option Addr) (n c : Nat), k ≤ 64 ∧ kv = .int .i64 ((k : Int) - 1) ∧ Below w.heap.size w wr ∧ Box wr w.heap.size (.bool b1) (.slice a1 L1 c1) ∧ Box wr (w.heap.size + 1) (.bool false) (.slice none 0 0) ∧ Box wr gp (.bool s) (.slice m n c) ∧ IntAt wr (.agg #[.bool s, .slice m n c]) (x ^ (E / 2 ^ k)) ∧ IntAt wr (.agg #[.bool b1, .slice a1 L1 c1]) x) (fun kv _ => (intOf kv + 1).toNat)
    case atStart => exact ⟨N, s2, m2, k2, d2, hNb, by go_num, HB.out, P0.out, P1.out, PP.out, by rw [Nat.div_eq_of_lt HN.out.1, Int.pow_zero]; exact IP.out, I1.out⟩
    case round =>
      clear HB P0 P1 PP IP I1
      obtain ⟨k, s, m, n, c, hk, rfl, hB, h0, h1, hp, hip, hix⟩ := hrel
      have HB := hide hB
      have P0 := hide h0
      have P1 := hide h1
      have PP := hide hp
      have IP := hide hip
      have I1 := hide hix
      clear hB h0 h1 hp hip hix
      cases k with
      | zero =>
        have p0 := PP.out.cell0
        have p1 := PP.out.cell1
        have hc0 := P1.out.cell0
        have hc1 := P1.out.cell1
        have hf0 := P1.out.free 0
        have hf1 := P1.out.free 1
        go_wp2
        refine ret_one rfl (w.heap.size + 1) _ _ rfl (P1.out.put _ _) rfl ?_
        unfold IPwP
        exact ⟨_, x ^ E, 0, _, rfl, by have := IP.out.keep (P1.out.keeps (by simp) (by simp) (.bool s) (.slice m n c)); simpa using this, HL.out, HLB.out, Or.inr (.inr ⟨by omega, .inl rfl, by rw [Int.toNat_natCast], rfl⟩), below_put HB.out (Nat.le_succ _) _ _⟩
      | succ k =>
        rw [show (((k + 1 : Nat) : Int) - 1) = (k : Int) from by omega]
        have p0 := PP.out.cell0
        have p1 := PP.out.cell1
        go_wp2_with fail
        refine (imul_any _ _ (x ^ (E / 2 ^ (k + 1))) (x ^ (E / 2 ^ (k + 1))) _ IP.out IP.out (ipow_len HL.out (Or.inl rfl) (Nat.div_le_self _ _)) (ipow_len HL.out (Or.inl rfl) (Nat.div_le_self _ _))).mono ?_
        rintro r u1 ⟨v5, rfl, n5, hb⟩
        rw [← ipow_add] at n5
        obtain ⟨s5, m5, k5, d5, rfl, n5⟩ := n5.cells
        replace HB := hide (HB.out.trans (hb.mono HB.out.size))
        replace P0 := hide (P0.out.step hb)
        replace P1 := hide (P1.out.step hb)
        replace PP := hide (PP.out.step hb)
        replace I1 := hide (I1.out.below hb)
        have I5 := hide n5
        clear hb n5 IP p0 p1
        have p0 := PP.out.cell0
        have p1 := PP.out.cell1
        have f0 := PP.out.free 0
        have f1 := PP.out.free 1
        go_upto_region 11 with fail
        clear p0 p1 f0 f1
        replace HB := hide (below_put HB.out (show w.heap.size ≤ gp by have := LTP.out; omega) (.bool s5) (.slice m5 k5 d5))
        replace P0 := hide (P0.out.other (C := gp) (by have := LTP.out; omega) (.bool s5) (.slice m5 k5 d5))
        replace P1 := hide (P1.out.other (C := gp) (by have := LTP.out; omega) (.bool s5) (.slice m5 k5 d5))
        replace I1 := hide (I1.out.keep (PP.out.keeps (by simp) (by simp) (.bool s5) (.slice m5 k5 d5)))
        replace I5 := hide (I5.out.keep (PP.out.keeps (by simp) (by simp) (.bool s5) (.slice m5 k5 d5)))
        replace PP := hide (PP.out.put (.bool s5) (.slice m5 k5 d5))
        generalize (u1.setCell ⟨gp, 0, none⟩ (.bool s5)).setCell ⟨gp, 1, none⟩ (.slice m5 k5 d5) = u2 at *
        have HST := hide (half_step E k)
        have hkI : (k : Int) ≤ 63 := by omega
        have hbit := shr_bit E k
        by_cases hb1 : E / 2 ^ k % 2 = 1
        · rw [hb1] at hbit
          have p0 := PP.out.cell0
          have p1 := PP.out.cell1
          have x0 := P0.out.cell0
          have x1 := P0.out.cell1
          go_wp2_with fail
          refine (imul_any _ _ (x ^ (E / 2 ^ (k + 1) + E / 2 ^ (k + 1))) x _ I5.out I1.out (ipow_len HL.out (Or.inl rfl) (half_le E k)) (by have := LX.out; omega)).mono ?_
          rintro r u3 ⟨v6, rfl, n6, hb⟩
          have e6 : x ^ (E / 2 ^ (k + 1) + E / 2 ^ (k + 1)) * x = x ^ (E / 2 ^ k) := by rw [← Int.pow_succ]; congr 1; have := HST.out; omega
          rw [e6] at n6
          clear e6
          obtain ⟨s6, m6, k6, d6, rfl, n6⟩ := n6.cells
          replace HB := hide (HB.out.trans (hb.mono HB.out.size))
          replace P0 := hide (P0.out.step hb)
          replace P1 := hide (P1.out.step hb)
          replace PP := hide (PP.out.step hb)
          replace I1 := hide (I1.out.below hb)
          have I6 := hide n6
          clear hb n6 I5 p0 p1 x0 x1 hbit
          have p0 := PP.out.cell0
          have p1 := PP.out.cell1
          have f0 := PP.out.free 0
          have f1 := PP.out.free 1
          go_wp2
          go_roundw
          case rel => exact ⟨k, s6, m6, k6, d6, by omega, by go_num, below_put HB.out (show w.heap.size ≤ gp by have := LTP.out; omega) (.bool s6) (.slice m6 k6 d6), P0.out.other (C := gp) (by have := LTP.out; omega) (.bool s6) (.slice m6 k6 d6), P1.out.other (C := gp) (by have := LTP.out; omega) (.bool s6) (.slice m6 k6 d6), PP.out.put (.bool s6) (.slice m6 k6 d6), I6.out.keep (PP.out.keeps (by simp) (by simp) (.bool s6) (.slice m6 k6 d6)), I1.out.keep (PP.out.keeps (by simp) (by simp) (.bool s6) (.slice m6 k6 d6))⟩
          case measure => simp [intOf]
        · have hb0 : E / 2 ^ k % 2 = 0 := by omega
          rw [hb0] at hbit HST
          go_wp2
          go_roundw
          case rel => exact ⟨k, s5, m5, k5, d5, by omega, by go_num, HB.out, P0.out, P1.out, PP.out, by rw [HST.out]; exact I5.out, I1.out⟩
          case measure => simp [intOf]
  · have hl3 : ¬ (65536 : Int) / (L : Int) < (E : Int) := by have h9 := HFIT.out; have h8 := quo_cast L; omega
    have hLp : 0 < L := by omega
    clear hlong hL0
    go_wp2_with fail
    refine (iof_any 1 _ (by decide) (by decide)).mono ?_
    rintro r w2 ⟨v2, rfl, n2, hb⟩
    obtain ⟨s2, m2, k2, d2, rfl, n2⟩ := n2.cells
    replace HB := hide (HB.out.trans (hb.mono HB.out.size))
    replace P0 := hide (P0.out.step hb)
    replace P1 := hide (P1.out.step hb)
    replace I1 := hide (I1.out.below hb)
    clear hb hl3 hLp
    go_upto_region 7 with fail
    have al := below_alloc w2 (.cells #[.bool s2, .slice m2 k2 d2] 25)
    have PP := hide (Box.new w2 (.bool s2) (.slice m2 k2 d2))
    have LTP : Hid (w.heap.size + 1 < w2.heap.size) := hide P1.out.lt
    replace HB := hide (HB.out.trans (al.mono HB.out.size))
    replace P0 := hide (P0.out.step al)
    replace P1 := hide (P1.out.step al)
    replace I1 := hide (I1.out.below al)
    have IP := hide (n2.below al)
    clear al n2
    generalize w2.alloc (.cells #[.bool s2, .slice m2 k2 d2] 25) = w3 at *
    generalize w2.heap.size = gp at *
    have hw : IntKind.u64.wrap (E : Int) = (E : Int) := by rw [IntKind.wrap_u64]; omega
    go_wp2_with fail
    refine (len_any (E : Int) _ (by omega) (by omega)).mono ?_
    rintro r w4 ⟨N, rfl, hN, hNb, rfl⟩
    have HN := hide hN
    clear hN hw
    rw [Int.toNat_natCast] at HN
    go_wp2
    go_loopw [8] (fun kv wr => ∃ (k : Nat) (s : Bool) (m : Option Addr) (n c : Nat), k ≤ 64 ∧ kv = .int .i64 ((k : Int) - 1) ∧ Below w.heap.size w wr ∧ Box wr w.heap.size (.bool b1) (.slice a1 L1 c1) ∧ Box wr (w.heap.size + 1) (.bool false) (.slice none 0 0) ∧ Box wr gp (.bool s) (.slice m n c) ∧ IntAt wr (.agg #[.bool s, .slice m n c]) (x ^ (E / 2 ^ k)) ∧ IntAt wr (.agg #[.bool b1, .slice a1 L1 c1]) x) (fun kv _ => (intOf kv + 1).toNat)
    case atStart => exact ⟨N, s2, m2, k2, d2, hNb, by go_num, HB.out, P0.out, P1.out, PP.out, by rw [Nat.div_eq_of_lt HN.out.1, Int.pow_zero]; exact IP.out, I1.out⟩
    case round =>
      clear HB P0 P1 PP IP I1
      obtain ⟨k, s, m, n, c, hk, rfl, hB, h0, h1, hp, hip, hix⟩ := hrel
      have HB := hide hB
      have P0 := hide h0
      have P1 := hide h1
      have PP := hide hp
      have IP := hide hip
      have I1 := hide hix
      clear hB h0 h1 hp hip hix
      cases k with
      | zero =>
        have p0 := PP.out.cell0
        have p1 := PP.out.cell1
        have hc0 := P1.out.cell0
        have hc1 := P1.out.cell1
        have hf0 := P1.out.free 0
        have hf1 := P1.out.free 1
        go_wp2
        refine ret_one rfl (w.heap.size + 1) _ _ rfl (P1.out.put _ _) rfl ?_
        unfold IPwP
        exact ⟨_, x ^ E, 0, _, rfl, by have := IP.out.keep (P1.out.keeps (by simp) (by simp) (.bool s) (.slice m n c)); simpa using this, HL.out, HLB.out, Or.inr (.inr ⟨by omega, (by have h9 := HFIT.out; have h8 := quo_cast L; omega), by rw [Int.toNat_natCast], rfl⟩), below_put HB.out (Nat.le_succ _) _ _⟩
      | succ k =>
        rw [show (((k + 1 : Nat) : Int) - 1) = (k : Int) from by omega]
        have p0 := PP.out.cell0
        have p1 := PP.out.cell1
        go_wp2_with fail
        refine (imul_any _ _ (x ^ (E / 2 ^ (k + 1))) (x ^ (E / 2 ^ (k + 1))) _ IP.out IP.out (ipow_len HL.out HFIT.out (Nat.div_le_self _ _)) (ipow_len HL.out HFIT.out (Nat.div_le_self _ _))).mono ?_
        rintro r u1 ⟨v5, rfl, n5, hb⟩
        rw [← ipow_add] at n5
        obtain ⟨s5, m5, k5, d5, rfl, n5⟩ := n5.cells
        replace HB := hide (HB.out.trans (hb.mono HB.out.size))
        replace P0 := hide (P0.out.step hb)
        replace P1 := hide (P1.out.step hb)
        replace PP := hide (PP.out.step hb)
        replace I1 := hide (I1.out.below hb)
        have I5 := hide n5
        clear hb n5 IP p0 p1
        have p0 := PP.out.cell0
        have p1 := PP.out.cell1
        have f0 := PP.out.free 0
        have f1 := PP.out.free 1
        go_upto_region 11 with fail
        clear p0 p1 f0 f1
        replace HB := hide (below_put HB.out (show w.heap.size ≤ gp by have := LTP.out; omega) (.bool s5) (.slice m5 k5 d5))
        replace P0 := hide (P0.out.other (C := gp) (by have := LTP.out; omega) (.bool s5) (.slice m5 k5 d5))
        replace P1 := hide (P1.out.other (C := gp) (by have := LTP.out; omega) (.bool s5) (.slice m5 k5 d5))
        replace I1 := hide (I1.out.keep (PP.out.keeps (by simp) (by simp) (.bool s5) (.slice m5 k5 d5)))
        replace I5 := hide (I5.out.keep (PP.out.keeps (by simp) (by simp) (.bool s5) (.slice m5 k5 d5)))
        replace PP := hide (PP.out.put (.bool s5) (.slice m5 k5 d5))
        generalize (u1.setCell ⟨gp, 0, none⟩ (.bool s5)).setCell ⟨gp, 1, none⟩ (.slice m5 k5 d5) = u2 at *
        have HST := hide (half_step E k)
        have hkI : (k : Int) ≤ 63 := by omega
        have hbit := shr_bit E k
        by_cases hb1 : E / 2 ^ k % 2 = 1
        · rw [hb1] at hbit
          have p0 := PP.out.cell0
          have p1 := PP.out.cell1
          have x0 := P0.out.cell0
          have x1 := P0.out.cell1
          go_wp2_with fail
          refine (imul_any _ _ (x ^ (E / 2 ^ (k + 1) + E / 2 ^ (k + 1))) x _ I5.out I1.out (ipow_len HL.out HFIT.out (half_le E k)) (by have := LX.out; omega)).mono ?_
          rintro r u3 ⟨v6, rfl, n6, hb⟩
          have e6 : x ^ (E / 2 ^ (k + 1) + E / 2 ^ (k + 1)) * x = x ^ (E / 2 ^ k) := by rw [← Int.pow_succ]; congr 1; have := HST.out; omega
          rw [e6] at n6
          clear e6
          obtain ⟨s6, m6, k6, d6, rfl, n6⟩ := n6.cells
          replace HB := hide (HB.out.trans (hb.mono HB.out.size))
          replace P0 := hide (P0.out.step hb)
          replace P1 := hide (P1.out.step hb)
          replace PP := hide (PP.out.step hb)
          replace I1 := hide (I1.out.below hb)
          have I6 := hide n6
          clear hb n6 I5 p0 p1 x0 x1 hbit
          have p0 := PP.out.cell0
          have p1 := PP.out.cell1
          have f0 := PP.out.free 0
          have f1 := PP.out.free 1
          go_wp2
          go_roundw
          case rel => exact ⟨k, s6, m6, k6, d6, by omega, by go_num, below_put HB.out (show w.heap.size ≤ gp by have := LTP.out; omega) (.bool s6) (.slice m6 k6 d6), P0.out.other (C := gp) (by have := LTP.out; omega) (.bool s6) (.slice m6 k6 d6), P1.out.other (C := gp) (by have := LTP.out; omega) (.bool s6) (.slice m6 k6 d6), PP.out.put (.bool s6) (.slice m6 k6 d6), I6.out.keep (PP.out.keeps (by simp) (by simp) (.bool s6) (.slice m6 k6 d6)), I1.out.keep (PP.out.keeps (by simp) (by simp) (.bool s6) (.slice m6 k6 d6))⟩
          case measure => simp [intOf]
        · have hb0 : E / 2 ^ k % 2 = 0 := by omega
          rw [hb0] at hbit HST
          go_wp2
          go_roundw
          case rel => exact ⟨k, s5, m5, k5, d5, by omega, by go_num, HB.out, P0.out, P1.out, PP.out, by rw [HST.out]; exact I5.out, I1.out⟩
          case measure => simp [intOf]
end Go.Proofs.YteogbhgogiaocaaDoor
