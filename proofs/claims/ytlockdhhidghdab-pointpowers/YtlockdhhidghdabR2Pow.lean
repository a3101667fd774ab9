/- The document's answers for layer 2 (swageref02): Pow. -/
import Derived.Test.YtlockdhhidghdabR2Law
import Derived.Test.YtlockdhhidghdabIRead
import Derived.Deep.Cut
namespace Go.Proofs.Ytlockdhhidghdab
open Go.RowKit

set_option maxRecDepth 100000 in
set_option maxHeartbeats 8000000 in
theorem rpow_any (v : Value) (x : Int) (E : Nat) (w : World) (h : RInt w v x) (hE : E ≤ 1000) (l1 : ∀ i, i ≤ E → (D.lim (x ^ i).natAbs).length ≤ 100000000) (lx : (D.lim x.natAbs).length ≤ 100000000) :
    Calls Try.prog 71 #[v, .int .i64 (E : Int)] w fun r w' => ∃ v', r = .returned v' ∧ RInt w' v' (x ^ E) ∧ Below w.heap.size w w' := by
  have I0 := hide h
  obtain ⟨b1, n1, a1, c1, rfl, hn1, hz, h01⟩ := h
  generalize (D.lim n1).length = L1 at *
  have HE := hide (nboxes2 35 w (.bool b1) (.slice a1 L1 c1) (.bool false) (.slice none 0 0))
  have I1 := hide (I0.out.below HE.out.2.2)
  have P0 := hide HE.out.1
  have P1 := hide HE.out.2.1
  have HB := hide HE.out.2.2
  have HLI := hide l1
  have HLX := hide lx
  clear I0 HE hn1 hz h01 l1 lx
  go_enter Try.func71, Try.ntmps71
  go_wp2_with fail
  refine (rof_any 1 _ (by decide) (by decide)).mono ?_
  rintro r w2 ⟨v2, rfl, n2, hb⟩
  obtain ⟨s2, k2, m2, d2, rfl, q1, q2, q3⟩ := n2
  have n2 : RInt w2 (.agg #[.bool s2, .slice m2 (D.lim k2).length d2]) 1 := ⟨s2, k2, m2, d2, rfl, q1, q2, q3⟩
  clear q1 q2 q3
  generalize (D.lim k2).length = l2 at *
  replace HB := hide (HB.out.trans (hb.mono HB.out.size))
  replace P0 := hide (P0.out.step hb)
  replace P1 := hide (P1.out.step hb)
  replace I1 := hide (I1.out.below hb)
  clear hb
  go_upto_region 2 with fail
  have al := below_alloc w2 (.cells #[.bool s2, .slice m2 l2 d2] 35)
  have PP := hide (Box2.new w2 35 (.bool s2) (.slice m2 l2 d2))
  have LTP : Hid (w.heap.size + 1 < w2.heap.size) := hide P1.out.lt
  replace HB := hide (HB.out.trans (al.mono HB.out.size))
  replace P0 := hide (P0.out.step al)
  replace P1 := hide (P1.out.step al)
  replace I1 := hide (I1.out.below al)
  have IP := hide (n2.below al)
  clear al n2
  generalize w2.alloc (.cells #[.bool s2, .slice m2 l2 d2] 35) = w3 at *
  generalize w2.heap.size = gp at *
  go_wp2
  go_loopw [6] (fun iv wr => ∃ (i : Nat) (s : Bool) (m : Option Addr) (n c : Nat), i ≤ E ∧ iv = .int .i64 (i : Int) ∧ Below w.heap.size w wr ∧ Box2 wr w.heap.size 35 (.bool b1) (.slice a1 L1 c1) ∧ Box2 wr (w.heap.size + 1) 35 (.bool false) (.slice none 0 0) ∧ Box2 wr gp 35 (.bool s) (.slice m n c) ∧ RInt wr (.agg #[.bool s, .slice m n c]) (x ^ i) ∧ RInt wr (.agg #[.bool b1, .slice a1 L1 c1]) x) (fun iv _ => E - (intOf iv).toNat)
  case atStart => exact ⟨0, s2, m2, l2, d2, Nat.zero_le _, rfl, HB.out, P0.out, P1.out, PP.out, by rw [Int.pow_zero]; exact IP.out, I1.out⟩
  case round =>
    clear HB P0 P1 PP IP I1
    obtain ⟨i, s, m, n, c, hi, rfl, hB, h0, h1, hp, hip, hix⟩ := hrel
    have HB := hide hB
    have P0 := hide h0
    have P1 := hide h1
    have PP := hide hp
    have IP := hide hip
    have I1 := hide hix
    clear hB h0 h1 hp hip hix
    by_cases hlt : i < E
    · have p0 := PP.out.cell0
      have p1 := PP.out.cell1
      have x0 := P0.out.cell0
      have x1 := P0.out.cell1
      go_wp2_with fail
      refine (rmul2_any _ _ (x ^ i) x _ IP.out I1.out (HLI.out i (by omega)) HLX.out).mono ?_
      rintro r u3 ⟨v6, rfl, n6, hb⟩
      rw [← Int.pow_succ] at n6
      obtain ⟨s6, k6, m6, d6, rfl, q1, q2, q3⟩ := n6
      have n6 : RInt u3 (.agg #[.bool s6, .slice m6 (D.lim k6).length d6]) (x ^ (i + 1)) := ⟨s6, k6, m6, d6, rfl, q1, q2, q3⟩
      clear q1 q2 q3
      generalize (D.lim k6).length = l6 at *
      replace HB := hide (HB.out.trans (hb.mono HB.out.size))
      replace P0 := hide (P0.out.step hb)
      replace P1 := hide (P1.out.step hb)
      replace PP := hide (PP.out.step hb)
      replace I1 := hide (I1.out.below hb)
      have I6 := hide n6
      clear hb n6 p0 p1 x0 x1 IP
      have p0 := PP.out.cell0
      have p1 := PP.out.cell1
      have f0 := PP.out.free 0
      have f1 := PP.out.free 1
      go_wp2
      go_roundw
      case rel => exact ⟨i + 1, s6, m6, l6, d6, by omega, by go_num, below_put HB.out (show w.heap.size ≤ gp by have := LTP.out; omega) (.bool s6) (.slice m6 l6 d6), P0.out.other (C := gp) (by have := LTP.out; omega) (.bool s6) (.slice m6 l6 d6), P1.out.other (C := gp) (by have := LTP.out; omega) (.bool s6) (.slice m6 l6 d6), PP.out.put (.bool s6) (.slice m6 l6 d6), I6.out.keep (PP.out.keeps (by simp) (by simp) (.bool s6) (.slice m6 l6 d6)), I1.out.keep (PP.out.keeps (by simp) (by simp) (.bool s6) (.slice m6 l6 d6))⟩
      case measure => simp [intOf]; omega
    · have e : i = E := by omega
      subst e
      have p0 := PP.out.cell0
      have p1 := PP.out.cell1
      have hc0 := P1.out.cell0
      have hc1 := P1.out.cell1
      have hf0 := P1.out.free 0
      have hf1 := P1.out.free 1
      go_wp2
      refine ret_ref rfl (w.heap.size + 1) _ _ _ _ rfl ((P1.out.set0 _).set1 _) rfl ?_
      exact ⟨_, rfl, IP.out.keep (P1.out.keeps (by simp) (by simp) _ _), below_put HB.out (Nat.le_succ _) _ _⟩
end Go.Proofs.Ytlockdhhidghdab
