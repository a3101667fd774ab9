/- swagelaw06.PointReads answers true at all texts, and turns nothing that was there. -/
import Derived.Test.YtenmogmdijnlhaaDoorPtLk
import Derived.Test.YtenmogmdijnlhaaDoorPtDet
import Derived.RegionTactic
namespace Go.Proofs.YtenmogmdijnlhaaDoor
open Go.RowKit

set_option maxRecDepth 100000 in
set_option maxHeartbeats 8000000 in
theorem preads_walk (s : ByteArray) (w : World) (hs : s.size ≤ 9223372036854775807) (hT : P10 w) (hE : EV w) :
    Calls Tryd.prog 5 #[.string s] w fun e w' => e = .returned (.bool true) ∧ Below w.heap.size w w' := by
  have TT := hide (And.intro hT hE)
  clear hT hE
  go_enter Tryd.func5, Tryd.ntmps5
  go_wp2_with fail
  refine (live_any _).mono ?_
  rintro e w1 ⟨rfl, hb⟩
  have HB := hide hb
  clear hb
  by_cases hl : 300 < s.size
  · have hl' : (300 : Int) < (s.size : Int) := by omega
    go_wp2
    go_ret
    exact ⟨rfl, HB.out⟩
  · have hl' : ¬ (300 : Int) < (s.size : Int) := by omega
    have HL : Hid (s.size ≤ 300) := hide (by omega)
    go_wp2_with fail
    refine (pread_any s _ (by have := HL.out; omega) (TT.out.1.below HB.out) (TT.out.2.below HB.out)).mono ?_
    rintro e w2 ⟨v, x, y, rfl, hr, hb⟩
    have RD := hide hr
    replace HB := hide (HB.out.trans (hb.mono HB.out.size))
    clear hb hr
    have VS : Hid (∃ a2 n2 c2, v = .slice a2 n2 c2) := hide (by
      rcases RD.out with ⟨_, h, _⟩ | ⟨_, _, ⟨a, c, h, _⟩, _⟩ | ⟨_, h, _⟩
      · exact ⟨_, _, _, h⟩
      · exact ⟨_, _, _, h⟩
      · exact ⟨_, _, _, h⟩)
    go_upto_region 6 with fail
    have b1 := below_alloc w2 (.cells #[.int .i64 (x : Int), .int .i64 (y : Int)] 33)
    have SP := hide (Box2.new w2 33 (.int .i64 (x : Int)) (.int .i64 (y : Int)))
    have W2 := hide b1
    replace HB := hide (HB.out.trans (b1.mono HB.out.size))
    clear b1
    have LT : Hid (w2.heap.size < (w2.alloc (.cells #[.int .i64 (x : Int), .int .i64 (y : Int)] 33)).heap.size) := hide SP.out.lt
    obtain ⟨w3, hw3⟩ : ∃ w3, w3 = w2.alloc (.cells #[.int .i64 (x : Int), .int .i64 (y : Int)] 33) := ⟨_, rfl⟩
    rw [← hw3] at SP W2 HB LT
    rw [← hw3]
    clear hw3
    obtain ⟨gs, hgs⟩ : ∃ gs, gs = w2.heap.size := ⟨_, rfl⟩
    rw [← hgs] at SP LT
    rw [← hgs]
    clear hgs
    go_wp2_with fail
    refine (rread6_any s _ (by have := HL.out; omega)).mono ?_
    rintro e w4 ⟨v', p, rfl, hf, hb⟩
    have RF := hide hf
    replace W2 := hide (W2.out.trans (hb.mono W2.out.size))
    replace SP := hide (SP.out.step hb)
    replace HB := hide (HB.out.trans (hb.mono HB.out.size))
    clear hb hf LT
    by_cases hp : 0 ≤ p
    · obtain ⟨rfl, rfl, hy⟩ := both_bad RD.out RF.out hp
      have s0 := SP.out.cell0
      have s1 := SP.out.cell1
      rw [hy] at s1
      clear hy
      have hs0 : (((6 : Nat) : Int)) = 6 := rfl
      rw [hs0] at s0
      clear hs0 VS
      go_wp2
      go_ret
      exact ⟨rfl, HB.out⟩
    · obtain ⟨rfl, rfl, rfl, ps, h1, h2, h3, h4, h5⟩ := both_good RD.out RF.out hp
      have P1 := hide (h1.below W2.out)
      have P2 := hide h2
      have PW := hide h3
      have PE := hide h4
      have PL : Hid (ps.length ≤ 301) := hide (by have := HL.out; omega)
      obtain ⟨a1, c1, rfl, k1, k2, _⟩ := h1
      obtain ⟨a2, c2, rfl, k3, k4, _⟩ := h2
      unfold maxLen at k2 k4
      have s0 := SP.out.cell0
      have s1 := SP.out.cell1
      have hs0 : (((0 : Nat) : Int)) = 0 := rfl
      rw [hs0] at s0 s1
      clear hs0 VS RD RF W2 h3 h4 h5
      go_wp2_with fail
      refine (live_any _).mono ?_
      rintro e w6 ⟨rfl, hb⟩
      replace HB := hide (HB.out.trans (hb.mono HB.out.size))
      replace P1 := hide (P1.out.below hb)
      replace P2 := hide (P2.out.below hb)
      clear hb s0 s1 SP
      go_wp2
      go_loopw [7] (fun iv wr => ∃ k : Nat, k ≤ ps.length ∧ iv = .int .i64 k ∧ PtsAt wr (.slice a1 ps.length c1) ps ∧ PtsAt wr (.slice a2 ps.length c2) ps ∧ Below w.heap.size w wr) (fun iv _ => ps.length - (intOf iv).toNat)
      case atStart => exact ⟨0, Nat.zero_le _, rfl, P1.out, P2.out, HB.out⟩
      case round =>
        clear HB P1 P2
        obtain ⟨k, hk2, rfl, hp1, hp2, hb⟩ := hrel
        have P1 := hide hp1
        have P2 := hide hp2
        have HB := hide hb
        clear hp1 hp2 hb
        by_cases hlt2 : k < ps.length
        · obtain ⟨b, off, rfl, hc⟩ := P1.out.at hlt2
          obtain ⟨b2, off2, rfl, hc2⟩ := P2.out.at hlt2
          have c0 := hc.cell0
          have c1 := hc.cell1
          have d0 := hc2.cell0
          have d1 := hc2.cell1
          clear hc hc2
          generalize pA ps k = x at *
          generalize pB ps k = y at *
          go_wp2
          go_region
          all_goals
            go_wp2
            go_roundw
            case rel => exact ⟨k + 1, by omega, by go_num, P1.out.below (Below.refl _ _).drew, P2.out.below (Below.refl _ _).drew, HB.out.drew⟩
            case measure => simp [intOf]; omega
        · go_wp2_with fail
          refine (ptxs_any _ ps _ P1.out PW.out (by have := PL.out; omega) (by have := join_small PW.out; have := PL.out; omega) (TT.out.1.below HB.out)).mono ?_
          rintro e w7 ⟨rfl, hb⟩
          rw [PE.out]
          replace HB := hide (HB.out.trans (hb.mono HB.out.size))
          clear hb
          go_wp2
          go_ret
          exact ⟨rfl, HB.out⟩
end Go.Proofs.YtenmogmdijnlhaaDoor
