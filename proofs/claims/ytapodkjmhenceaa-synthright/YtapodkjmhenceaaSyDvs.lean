/- synth.Divisors: the amounts by which is divided. -/
import Derived.Test.YtapodkjmhenceaaSyDiv
namespace Go.Proofs.Ytapodkjmhenceaa
open Go.RowKit Go.Shelf Go.Sort

set_option maxRecDepth 100000 in
set_option maxHeartbeats 8000000 in
theorem sdiv_any (va : Value) (ps : List (Int × Int)) (w : World) (h : PtsAt w va ps) :
    Calls Try.prog 31 #[va] w fun e w' => ∃ v x, e = .returned (.tuple #[v, .int .i64 x]) ∧ ((Rgt ps ∧ x = 0 ∧ ∃ zs, DivL ps zs ∧ IntsL w' v zs) ∨ (¬ Rgt ps ∧ x = 2 ∧ v = .slice none 0 0)) ∧ Below w.heap.size w w' := by
  obtain ⟨i0, hi0, hz0, hz1, hz2⟩ := info_parts Try.infoInt1
  have TR := hide (And.intro hi0 (And.intro hz0 (And.intro hz1 hz2)))
  clear hi0 hz0 hz1 hz2
  have HI := hide h
  obtain ⟨a, cap, rfl, hcap, hmx, _⟩ := h
  unfold maxLen at hmx
  go_enter Try.func31, Try.ntmps31
  go_wp2_with fail
  refine (srt_any _ ps _ HI.out).mono ?_
  rintro e w1 ⟨⟨r, rfl, hr⟩, hb⟩
  have HB := hide hb
  have HR := hide hr
  clear hb hr
  cases r with
  | false =>
    go_wp2
    go_ret2
    exact ⟨_, _, rfl, .inr ⟨fun h => (by have := HR.out.2 h; cases this), rfl, rfl⟩, HB.out⟩
  | true =>
    have RG := hide (HR.out.1 rfl)
    clear HR
    have L15 := RG.out.hi
    have L1 := RG.out.lo
    obtain ⟨b, off, rfl, _⟩ := HI.out.at2 (i := 0) (by omega)
    go_wp2
    go_loopw [4, 5, 6, 8, 9, 15] (fun fv _ _ _ _ iv wr => ∃ j : Nat, j ≤ ps.length ∧ iv = .int .i64 j ∧ OwnI wr w.heap.size fv (fAll ps j) ∧ Below w.heap.size w wr) (fun _ _ _ _ _ iv _ => ps.length - (intOf iv).toNat)
    case atStart => exact ⟨0, Nat.zero_le _, rfl, World.ownsRow_nil _ _ _ _, HB.out⟩
    case round =>
      clear HB
      obtain ⟨j, hj, rfl, ho, hb⟩ := hrel
      have OO := hide ho
      have HB := hide hb
      clear ho hb
      by_cases hlt : j < ps.length
      · have hc := (HI.out.below HB.out).cell hlt
        have c0 := hc.cell0
        have c1 := hc.cell1
        clear hc
        have HA := hide (below_alloc wr (.cells #[.int .i64 (pA ps j), .int .i64 (pB ps j)] 61))
        have PX := hide (Box2.new wr 61 (.int .i64 (pA ps j)) (.int .i64 (pB ps j)))
        replace OO := hide (OO.out.below HA.out)
        replace HB := hide (HB.out.trans (HA.out.mono HB.out.size))
        have HJ : Hid (inB (pA ps j) (pB ps j) = true) := hide (RG.out.each j hlt).1
        go_wp2
        clear c0 c1
        generalize wr.alloc (.cells #[.int .i64 (pA ps j), .int .i64 (pB ps j)] 61) = w2 at *
        generalize wr.heap.size = gq at *
        go_loopw [4, 8, 9, 24] (fun fv _ _ iv wr => ∃ k : Nat, k ≤ j ∧ iv = .int .i64 k ∧ OwnI wr w.heap.size fv (fAll ps j ++ fRow ps j k) ∧ Box2 wr gq 61 (.int .i64 (pA ps j)) (.int .i64 (pB ps j)) ∧ Below w.heap.size w wr) (fun _ _ _ iv _ => j - (intOf iv).toNat)
        case atStart => exact ⟨0, Nat.zero_le _, rfl, by rw [show fRow ps j 0 = [] from rfl, List.append_nil]; exact OO.out, PX.out, HB.out⟩
        case round =>
          clear OO PX HB
          obtain ⟨k, hk, rfl, ho, hp, hb⟩ := hrel
          have OO := hide ho
          have PX := hide hp
          have HB := hide hb
          clear ho hp hb
          by_cases hlk : k < j
          · have hc := (HI.out.below HB.out).cell (i := k) (by omega)
            have c0 := hc.cell0
            have c1 := hc.cell1
            clear hc
            have HK : Hid (inB (pA ps k) (pB ps k) = true) := hide (RG.out.each k (by omega)).1
            have DD : Hid ((detI (nA (pA ps k) (pB ps k)) (nB (pA ps k) (pB ps k)) (nA (pA ps j) (pB ps j)) (nB (pA ps j) (pB ps j))).natAbs = dst ps k j) := hide rfl
            have FS := hide (fRow_succ ps j k)
            have FL : Hid ((fAll ps j ++ fRow ps j k).length ≤ 1000) := hide (by rw [List.length_append]; have := fAll_len ps j (by omega); have := fRow_len ps j k; omega)
            have CA : Hid (∀ u, Calls Try.prog 83 #[.agg #[.int .i64 (pA ps k), .int .i64 (pB ps k)], .agg #[.int .i64 (pA ps j), .int .i64 (pB ps j)]] u fun e w' => e = .returned (.int .i64 (dst ps k j : Int)) ∧ Below u.heap.size u w') := hide (fun u => apart_any _ _ _ _ u HK.out HJ.out)
            have ND : Hid (∀ q : List Int, q = fAll ps j ++ fRow ps j k → fAll ps j ++ fRow ps j (k + 1) = q ++ (if 1 < dst ps k j then [(dst ps k j : Int)] else [])) := hide (fun q e => by rw [e, FS.out, List.append_assoc])
            obtain ⟨T, hT⟩ : ∃ T, T = fAll ps j ++ fRow ps j k := ⟨_, rfl⟩
            have N2 := hide (ND.out _ hT)
            rw [← hT] at OO FL
            have HA := hide (below_alloc wr (.cells #[.int .i64 (pA ps k), .int .i64 (pB ps k)] 61))
            have PK := hide (Box2.new wr 61 (.int .i64 (pA ps k)) (.int .i64 (pB ps k)))
            replace PX := hide (PX.out.step HA.out)
            replace OO := hide (OO.out.below HA.out)
            replace HB := hide (HB.out.trans (HA.out.mono HB.out.size))
            clear ND FS DD HA hT
            generalize pA ps k = xk at *
            generalize pB ps k = yk at *
            have x0 := PK.out.cell0
            have x1 := PK.out.cell1
            have y0 := PX.out.cell0
            have y1 := PX.out.cell1
            go_wp2_with fail
            generalize wr.alloc (.cells #[.int .i64 xk, .int .i64 yk] 61) = w3 at *
            refine (CA.out _).mono ?_
            rintro e w4 ⟨rfl, hb⟩
            replace PX := hide (PX.out.step hb)
            replace OO := hide (OO.out.below hb)
            replace HB := hide (HB.out.trans (hb.mono HB.out.size))
            clear hb c0 c1 x0 x1 y0 y1 PK CA
            generalize dst ps k j = dd at *
            by_cases hd : 1 < dd
            · have hd' : (1 : Int) < (dd : Int) := by omega
              rw [if_pos hd] at N2
              have al := below_alloc w4 (.cells #[.int .i64 (dd : Int)] 3)
              have OA := hide (OO.out.below al)
              have BA := hide (HB.out.trans (al.mono HB.out.size))
              have PA := hide (PX.out.step al)
              clear al
              go_wp2_with (at_builtin; refine wpList_append_own _ rfl _ _ 78 rfl w.heap.size 3 i0 (.int .i64 0) 1 8 Try.underlying78 TR.out.1 TR.out.2.1 TR.out.2.2.1 TR.out.2.2.2 rfl (by decide) _ _ _ rfl OA.out ⟨w4.heap.size, 0, none⟩ 1 _ [.int .i64 (dd : Int)] rfl rfl (one_cellI _ _ _) (by intro u hu; simp only [List.mem_cons, List.not_mem_nil, or_false] at hu; subst hu; rfl) (by have := FL.out; unfold maxLen; omega) (by have := FL.out; omega) BA.out.size ?_; intro v' w5 hown hgrow hnil; have OW : Hid (OwnI w5 w.heap.size v' (T ++ [(dd : Int)])) := hide (OwnI.snoc hown); have BW := hide (BA.out.grown hgrow BA.out.size (fun r e => OA.out.ge e)); have PW := hide (box_grown PA.out hgrow (own_ne OA.out PA.out)); clear hown hgrow hnil)
              go_roundw
              case rel => exact ⟨k + 1, by omega, by go_num, by rw [N2.out]; exact OW.out, PW.out, BW.out⟩
              case measure => simp [intOf]; omega
            · have hd' : ¬ (1 : Int) < (dd : Int) := by omega
              rw [if_neg hd, List.append_nil] at N2
              go_wp2
              go_roundw
              case rel => exact ⟨k + 1, by omega, by go_num, by rw [N2.out]; exact OO.out, PX.out, HB.out⟩
              case measure => simp [intOf]; omega
          · have e : k = j := by omega
            subst e
            have FS := hide (fAll_succ ps k)
            go_wp2
            go_roundw
            case rel => exact ⟨k + 1, by omega, by go_num, by rw [FS.out]; exact OO.out, HB.out⟩
            case measure => simp [intOf]; omega
      · have e : j = ps.length := by omega
        subst e
        have DL : Hid (DivL ps (Lib.compact (srtd (fAll ps ps.length)))) := hide ⟨(once_inc _).1, fun z => by rw [(once_inc _).2, fAll_mem]⟩
        have SA := hide (sort_any _ (fAll ps ps.length) w.heap.size w _ OO.out HB.out HB.out.size (by have := fAll_len ps ps.length (by omega); omega))
        generalize Lib.compact (srtd (fAll ps ps.length)) = zs at *
        go_wp2_with fail
        refine SA.out.mono ?_
        rintro e w4 ⟨rfl, hb, hw4, hc⟩
        have HC := hide hc
        clear hb hw4 hc SA
        go_wp2_with fail
        refine HC.out.mono ?_
        rintro e w5 ⟨u, rfl, hu, hb, _⟩
        have HU := hide hu
        have B5 := hide hb
        clear hu hb HC
        go_wp2
        go_ret2
        exact ⟨_, _, rfl, .inl ⟨RG.out, rfl, zs, DL.out, HU.out⟩, B5.out⟩
end Go.Proofs.Ytapodkjmhenceaa
