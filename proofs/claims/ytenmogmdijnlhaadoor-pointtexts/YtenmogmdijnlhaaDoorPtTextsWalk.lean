/- swagelaw06.PointTexts answers true at all lists of points, and turns nothing that was there. -/
import Derived.Test.YtenmogmdijnlhaaDoorPtLk
import Derived.Test.YtenmogmdijnlhaaDoorPtDet
import Derived.RegionTactic
namespace Go.Proofs.YtenmogmdijnlhaaDoor
open Go.RowKit

theorem wf_wide {z : Int} (h : (Lit.int .i64 z).wf = true) : -9223372036854775808 ≤ z ∧ z ≤ 9223372036854775807 := by
  have h1 : (decide (IntKind.i64.min ≤ z) && decide (z ≤ IntKind.i64.max)) = true := h
  have e1 : IntKind.i64.min = -9223372036854775808 := by decide
  have e2 : IntKind.i64.max = 9223372036854775807 := by decide
  rw [e1, e2, Bool.and_eq_true, decide_eq_true_eq, decide_eq_true_eq] at h1
  exact h1
theorem pts_wide {ps : List (Int × Int)} (h : ∀ i, (Lit.int .i64 (pA ps i)).wf = true ∧ (Lit.int .i64 (pB ps i)).wf = true) : PtsW ps := fun i => ⟨wf_wide (h i).1, wf_wide (h i).2⟩

set_option maxRecDepth 100000 in
set_option maxHeartbeats 8000000 in
theorem ptexts_walk (va : Value) (ps : List (Int × Int)) (w : World) (h : PtsAt w va ps) (hw : PtsW ps) (hT : P10 w) (hE : EV w) :
    Calls Tryd.prog 4 #[va] w fun e w' => e = .returned (.bool true) ∧ Below w.heap.size w w' := by
  have HI := hide h
  have HS := hide hw
  have TT := hide (And.intro hT hE)
  obtain ⟨a, cap, rfl, hcap, hmx, _⟩ := h
  unfold maxLen at hmx
  clear hw hT hE
  go_enter Tryd.func4, Tryd.ntmps4
  go_wp2_with fail
  refine (live_any _).mono ?_
  rintro e w1 ⟨rfl, hb⟩
  have HB := hide hb
  clear hb
  by_cases hl : 300 < ps.length
  · have hl' : (300 : Int) < (ps.length : Int) := by omega
    go_wp2
    go_ret
    exact ⟨rfl, HB.out⟩
  · have hl' : ¬ (300 : Int) < (ps.length : Int) := by omega
    have HL : Hid (ps.length ≤ 300) := hide (by omega)
    go_wp2_with fail
    refine (ptxs_any _ ps _ (HI.out.below HB.out) HS.out (by have := HL.out; omega) (by have := join_small HS.out; have := HL.out; omega) (TT.out.1.below HB.out)).mono ?_
    rintro e w2 ⟨rfl, hb⟩
    replace HB := hide (HB.out.trans (hb.mono HB.out.size))
    clear hb
    have SZ : Hid ((ptxs ps).size ≤ 65536) := hide (by have := ptxs_size HS.out; have := HL.out; omega)
    have RL := hide (fun u (hu : PtsAt u (.slice a ps.length cap) ps) => rlistP_any _ ps u hu HS.out (by have := HL.out; omega))
    have RD := hide (fun (hin : ∀ i, i < ps.length → inB (pA ps i) (pB ps i) = true) (v : Value) (x y : Nat) (u : World) (hr : RdP (ptxs ps) v x y u) => text_points hin hr)
    generalize ptxs ps = tx at *
    go_wp2_with fail
    refine (RL.out _ (HI.out.below HB.out)).mono ?_
    rintro e w3 ⟨rfl, hb⟩
    replace HB := hide (HB.out.trans (hb.mono HB.out.size))
    clear hb RL
    go_wp2
    go_loopw [4] (fun iv wr => ∃ k : Nat, k ≤ ps.length ∧ iv = .int .i64 k ∧ (∀ i, i < k → inB (pA ps i) (pB ps i) = true) ∧ Below w.heap.size w wr) (fun iv _ => ps.length - (intOf iv).toNat)
    case atStart => exact ⟨0, Nat.zero_le _, rfl, (fun i hi => absurd hi (by omega)), HB.out⟩
    case round =>
      clear HB
      obtain ⟨k, hk, rfl, hin, hb⟩ := hrel
      have HN := hide hin
      have HB := hide hb
      clear hin hb
      by_cases hlt : k < ps.length
      · obtain ⟨b, off, rfl, hc⟩ := (HI.out.below HB.out).at hlt
        have c0 := hc.cell0
        have c1 := hc.cell1
        clear hc
        obtain ⟨x, hx⟩ : ∃ x, x = pA ps k := ⟨_, rfl⟩
        obtain ⟨y, hy⟩ : ∃ y, y = pB ps k := ⟨_, rfl⟩
        rw [← hx] at c0
        rw [← hy] at c1
        have HX := hide (And.intro hx hy)
        clear hx hy
        go_wp2_with fail
        refine (rin_any x y _).mono ?_
        rintro e w4 ⟨rfl, hb⟩
        replace HB := hide (HB.out.trans (hb.mono HB.out.size))
        clear hb c0 c1
        cases hxy : inB x y with
        | false =>
          go_wp2
          go_ret
          exact ⟨rfl, HB.out⟩
        | true =>
          go_wp2
          go_roundw
          case rel => exact ⟨k + 1, by omega, by go_num, (fun i hi => by
            by_cases e : i = k
            · rw [e, ← HX.out.1, ← HX.out.2]; exact hxy
            · exact HN.out i (by omega)), HB.out⟩
          case measure => simp [intOf]; omega
      · have e : k = ps.length := by omega
        subst e
        go_wp2_with fail
        refine (pread_any tx _ SZ.out (TT.out.1.below HB.out) (TT.out.2.below HB.out)).mono ?_
        rintro e w4 ⟨v, x, y, rfl, hr, hb⟩
        replace HB := hide (HB.out.trans (hb.mono HB.out.size))
        obtain ⟨rfl, rfl, hp⟩ := RD.out HN.out _ _ _ _ hr
        have HP := hide hp
        obtain ⟨a2, cap2, rfl, hcap2, hmx2, _⟩ := hp
        unfold maxLen at hmx2
        clear hb hr RD
        go_upto_region 14 with fail
        have b1 := below_alloc w4 (.cells #[.int .i64 ((0 : Nat) : Int), .int .i64 ((0 : Nat) : Int)] 33)
        have SP := hide (Box2.new w4 33 (.int .i64 ((0 : Nat) : Int)) (.int .i64 ((0 : Nat) : Int)))
        replace HB := hide (HB.out.trans (b1.mono HB.out.size))
        replace HP := hide (HP.out.below b1)
        clear b1
        simp only [Int.ofNat_zero] at *
        generalize w4.alloc (.cells #[.int .i64 0, .int .i64 0] 33) = w5 at *
        generalize w4.heap.size = gs at *
        have s0 := SP.out.cell0
        have s1 := SP.out.cell1
        go_wp2_with fail
        refine (live_any _).mono ?_
        rintro e w6 ⟨rfl, hb⟩
        replace HB := hide (HB.out.trans (hb.mono HB.out.size))
        replace HP := hide (HP.out.below hb)
        clear hb s0 s1 SP
        go_wp2
        go_loopw [7] (fun iv wr => ∃ k : Nat, k ≤ ps.length ∧ iv = .int .i64 k ∧ PtsAt wr (.slice a2 ps.length cap2) ps ∧ Below w.heap.size w wr) (fun iv _ => ps.length - (intOf iv).toNat)
        case atStart => exact ⟨0, Nat.zero_le _, rfl, HP.out, HB.out⟩
        case round =>
          clear HB HP
          obtain ⟨k, hk2, rfl, hp, hb⟩ := hrel
          have HP := hide hp
          have HB := hide hb
          clear hp hb
          by_cases hlt2 : k < ps.length
          · obtain ⟨b, off, rfl, hc⟩ := (HI.out.below HB.out).at hlt2
            obtain ⟨b2, off2, rfl, hc2⟩ := HP.out.at hlt2
            have c0 := hc.cell0
            have c1 := hc.cell1
            have d0 := hc2.cell0
            have d1 := hc2.cell1
            clear hc hc2
            generalize pA ps k = x at *
            generalize pB ps k = y at *
            go_wp2
            go_region
            all_goals
              go_wp2
              go_roundw
              case rel => exact ⟨k + 1, by omega, by go_num, HP.out.below (Below.refl _ _).drew, HB.out.drew⟩
              case measure => simp [intOf]; omega
          · go_wp2
            go_ret
            exact ⟨rfl, HB.out⟩
end Go.Proofs.YtenmogmdijnlhaaDoor
