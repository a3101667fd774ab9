/- swagelaw12.SynthRight answers true at all lists of points, and turns nothing that was there. -/
import Derived.Test.YtapodkjmhenceaaSyGrid
import Derived.Test.YtapodkjmhenceaaSyOne
import Derived.Test.YtapodkjmhenceaaSyDvs
import Derived.Test.YtapodkjmhenceaaSyRDiv
import Derived.Test.YtapodkjmhenceaaCalm3
namespace Go.Proofs.Ytapodkjmhenceaa
open Go.RowKit

theorem GridI.row {w : World} {g : Nat} {ps : List (Int × Int)} {n m : Nat} (h : GridI w (.slice (some ⟨g, 0, none⟩) n m) ps) {i : Nat} (hi : i < ps.length) : ∃ gi, CellAt w ⟨g, i, none⟩ (.slice (some ⟨gi, 0, none⟩) ps.length ps.length) ∧ IRow w gi (pwr ps i) := by
  obtain ⟨g', F, e, h1, h2⟩ := h
  simp only [Value.slice.injEq, Option.some.injEq, Addr.mk.injEq] at e
  obtain ⟨⟨rfl, _⟩, _⟩ := e
  exact ⟨F i, ⟨h1.cells i hi⟩, h2 i hi⟩
theorem GridR.row {w : World} {b off n c : Nat} {ps : List (Int × Int)} (h : GridR w (.slice (some ⟨b, off, none⟩) n c) ps) {i : Nat} (hi : i < ps.length) : ∃ u, CellAt w ⟨b, off + i, none⟩ u ∧ RInts w u (pwr ps i) := by
  obtain ⟨a, cap, e, _, _, h3⟩ := h
  simp only [Value.slice.injEq] at e
  obtain ⟨rfl, _, rfl⟩ := e
  obtain ⟨b', off', u, e2, k1, k2⟩ := h3 i hi
  simp only [Option.some.injEq, Addr.mk.injEq] at e2
  obtain ⟨rfl, rfl, _⟩ := e2
  exact ⟨u, ⟨k1⟩, k2⟩
theorem IntsL.at {w : World} {a : Option Addr} {n c : Nat} {zs : List Int} (h : IntsL w (.slice a n c) zs) {k : Nat} (hk : k < zs.length) : ∃ b off, a = some ⟨b, off, none⟩ ∧ w.cell? ⟨b, off + k, none⟩ = some (.int .i64 (zs.getD k 0)) := by
  obtain ⟨a', c', e, _, _, h3⟩ := h
  simp only [Value.slice.injEq] at e
  obtain ⟨rfl, _, rfl⟩ := e
  exact h3 k hk
theorem pwr_get {ps : List (Int × Int)} {i k : Nat} (hk : k < ps.length) : (pwr ps i).getD k 0 = powf (pA ps i) (pB ps i) ps.length k := by
  unfold pwr
  rw [List.getD_eq_getElem?_getD, List.getElem?_map, List.getElem?_range hk]
  rfl

set_option maxRecDepth 100000 in
set_option maxHeartbeats 16000000 in
theorem synr_walk (va : Value) (ps : List (Int × Int)) (w : World) (h : PtsAt w va ps) :
    Calls Try.prog 6 #[va] w fun e w' => e = .returned (.bool true) ∧ Below w.heap.size w w' := by
  have HI := hide h
  obtain ⟨a, cap, rfl, hcap, hmx, _⟩ := h
  unfold maxLen at hmx
  go_enter Try.func6, Try.ntmps6
  go_wp2_with fail
  refine (live12_any _).mono ?_
  rintro e w1 ⟨rfl, hb⟩
  have HB := hide hb
  clear hb
  by_cases hl : 300 < ps.length
  · have hl' : (300 : Int) < (ps.length : Int) := by omega
    go_wp2
    go_ret
    exact ⟨rfl, HB.out⟩
  · have hl' : ¬ (300 : Int) < (ps.length : Int) := by omega
    go_wp2_with fail
    refine (rrt_any _ ps _ (HI.out.below HB.out)).mono ?_
    rintro e w2 ⟨⟨r, rfl, hr⟩, hb⟩
    have HR := hide hr
    replace HB := hide (HB.out.trans (hb.mono HB.out.size))
    clear hb hr
    go_wp2_with fail
    refine (sgrid_any _ ps _ (HI.out.below HB.out)).mono ?_
    rintro e w3 ⟨gv, gx, rfl, hg, hb⟩
    replace HB := hide (HB.out.trans (hb.mono HB.out.size))
    have HG := hide hg
    clear hb hg
    go_wp2_with fail
    refine (sdiv_any _ ps _ (HI.out.below HB.out)).mono ?_
    rintro e w4 ⟨dv, dx, rfl, hd, hb⟩
    have B34 := hide hb
    replace HB := hide (HB.out.trans (hb.mono HB.out.size))
    have HD := hide hd
    clear hb hd
    go_wp2_with fail
    refine (srt_any _ ps _ (HI.out.below HB.out)).mono ?_
    rintro e w5 ⟨⟨r', rfl, hr'⟩, hb⟩
    have e1 : r' = r := by
      have := HR.out
      cases r <;> cases r' <;> simp_all
    subst e1
    have B45 := hide hb
    replace HB := hide (HB.out.trans (hb.mono HB.out.size))
    clear hb hr'
    cases r' with
    | false =>
      have NR : Hid (¬ Rgt ps) := hide (fun h => by have := HR.out.2 h; cases this)
      rcases HG.out with ⟨h, _⟩ | ⟨_, rfl, rfl⟩
      · exact absurd h NR.out
      · rcases HD.out with ⟨h, _⟩ | ⟨_, rfl, rfl⟩
        · exact absurd h NR.out
        · clear HG HD HR NR B34 B45
          go_wp2_with fail
          refine (live12_any _).mono ?_
          rintro e w6 ⟨rfl, hb⟩
          replace HB := hide (HB.out.trans (hb.mono HB.out.size))
          clear hb
          go_wp2
          go_ret
          exact ⟨rfl, HB.out⟩
    | true =>
      have RG := hide (HR.out.1 rfl)
      rcases HG.out with ⟨_, rfl, hgi⟩ | ⟨h, _⟩
      · rcases HD.out with ⟨_, rfl, zs, hdl, hil⟩ | ⟨h, _⟩
        · have GI := hide ((hgi.below B34.out).below B45.out)
          have IL := hide (hil.below B45.out)
          have DL := hide hdl
          have L15 := RG.out.hi
          have L1 := RG.out.lo
          obtain ⟨g, hgv⟩ : ∃ g, gv = .slice (some ⟨g, 0, none⟩) ps.length ps.length := by obtain ⟨g, F, h, _⟩ := hgi; exact ⟨g, h⟩
          clear hgi hil hdl HG HD HR B34 B45
          subst hgv
          go_wp2_with fail
          refine (live12_any _).mono ?_
          rintro e w6 ⟨rfl, hb⟩
          replace HB := hide (HB.out.trans (hb.mono HB.out.size))
          replace GI := hide (GI.out.below hb)
          replace IL := hide (IL.out.below hb)
          clear hb
          go_wp2_with fail
          refine (rgrid_any _ ps _ (HI.out.below HB.out) RG.out).mono ?_
          rintro e w7 ⟨rv, rfl, hgr, hb⟩
          replace HB := hide (HB.out.trans (hb.mono HB.out.size))
          replace GI := hide (GI.out.below hb)
          replace IL := hide (IL.out.below hb)
          have GR := hide hgr
          obtain ⟨ra, c3, rfl, hc3, hc4, h3⟩ := hgr
          obtain ⟨b3, o3, _, rfl, _⟩ := h3 0 (by omega)
          unfold maxLen at hc3
          clear hb h3
          obtain ⟨da, dc, rfl, dc1, dc2, _⟩ := id IL.out
          unfold maxLen at dc2
          go_wp2
          obtain ⟨dv, hdv⟩ : ∃ dv, dv = Value.slice da zs.length dc := ⟨_, rfl⟩
          rw [← hdv] at IL
          have DV := hide hdv
          clear hdv
          go_loopw [9, 10] (fun iv _ wr => ∃ i : Nat, i ≤ ps.length ∧ iv = .int .i64 i ∧ GridI wr (.slice (some ⟨g, 0, none⟩) ps.length ps.length) ps ∧ GridR wr (.slice (some ⟨b3, o3, none⟩) ps.length c3) ps ∧ IntsL wr dv zs ∧ Below w.heap.size w wr) (fun iv _ _ => ps.length - (intOf iv).toNat)
          case atStart => exact ⟨0, Nat.zero_le _, rfl, GI.out, GR.out, IL.out, HB.out⟩
          case round =>
            clear GI GR IL HB
            obtain ⟨i, hi, rfl, h1, h2, h3, hb⟩ := hrel
            have GI := hide h1
            have GR := hide h2
            have IL := hide h3
            have HB := hide hb
            clear h1 h2 h3 hb
            by_cases hlt : i < ps.length
            · obtain ⟨gi, hri, hrow⟩ := GI.out.row hlt
              obtain ⟨u, hqi, hqr⟩ := GR.out.row hlt
              obtain ⟨a4, c4, hu, hc41, hc42, h4⟩ := id hqr
              obtain ⟨b4, o4, rfl, _⟩ := h4 (pwr_ne L1 i)
              rw [pwr_len] at hu hc41
              subst hu
              unfold maxLen at hc42
              have c1 := hri.out
              have c2 := hqi.out
              have R1 := hide hri.drew
              have R2 := hide hqi.drew
              clear hri hrow hqi hqr h4
              go_wp2
              go_region
              go_wp2
              clear c1 c2
              go_loopw [10] (fun kv wr => ∃ k : Nat, k ≤ ps.length ∧ kv = .int .i64 k ∧ GridI wr (.slice (some ⟨g, 0, none⟩) ps.length ps.length) ps ∧ GridR wr (.slice (some ⟨b3, o3, none⟩) ps.length c3) ps ∧ IntsL wr dv zs ∧ Below w.heap.size w wr ∧ CellAt wr ⟨g, i, none⟩ (.slice (some ⟨gi, 0, none⟩) ps.length ps.length) ∧ CellAt wr ⟨b3, o3 + i, none⟩ (.slice (some ⟨b4, o4, none⟩) ps.length c4)) (fun kv _ => ps.length - (intOf kv).toNat)
              case atStart => exact ⟨0, Nat.zero_le _, rfl, GI.out.below (Below.refl _ _).drew, GR.out.below (Below.refl _ _).drew, IL.out.below (Below.refl _ _).drew, HB.out.drew, R1.out, R2.out⟩
              case round =>
                clear GI GR IL HB
                obtain ⟨k, hk, rfl, h1, h2, h3, hb, hri, hqi⟩ := hrel
                have GI := hide h1
                have GR := hide h2
                have IL := hide h3
                have HB := hide hb
                have R1 := hide hri
                have R2 := hide hqi
                clear h1 h2 h3 hb hri hqi
                have r1 := R1.out.out
                by_cases hlk : k < ps.length
                · obtain ⟨gi', hri', hrow⟩ := GI.out.row hlt
                  obtain ⟨u', hqi', hqr⟩ := GR.out.row hlt
                  have e2 : gi' = gi := by have := hri'.out; rw [r1] at this; simp only [Option.some.injEq, Value.slice.injEq, Addr.mk.injEq] at this; exact this.1.1.symm
                  subst e2
                  have e3 : u' = .slice (some ⟨b4, o4, none⟩) ps.length c4 := by have := hqi'.out; rw [R2.out.out] at this; exact (Option.some.inj this).symm
                  subst e3
                  obtain ⟨s1, m1, l1, c1, k1, k2, k3⟩ := hrow.cells k (by rw [pwr_len]; exact hlk)
                  obtain ⟨b5, o5, e5, s2, m2, l2, c2, q1, q2, q3⟩ := hqr.at (i := k) (by rw [pwr_len]; exact hlk)
                  simp only [Option.some.injEq, Addr.mk.injEq] at e5
                  obtain ⟨rfl, rfl, _⟩ := e5
                  rw [pwr_get hlk] at k3 q3
                  have K1 : Hid (CellAt wr ⟨gi', k * 2, none⟩ (.bool s1)) := hide ⟨k1⟩
                  have K2 : Hid (CellAt wr ⟨gi', k * 2 + 1, none⟩ (.slice m1 l1 c1)) := hide ⟨k2⟩
                  have Q1 := hide q1
                  have Q2 := hide q2
                  have I1 := hide k3
                  have I2 := hide q3
                  have IN := in_yes (RG.out.each i hlt).1
                  have LK := hide (SzI.len (powf_sz (a := pA ps i) (b := pB ps i) (by omega) (by omega) (show ps.length ≤ 16 by omega) hlk) (by decide))
                  generalize powf (pA ps i) (pB ps i) ps.length k = z at *
                  clear hri' hqi' hrow hqr k1 k2 k3 q1 q2 q3 IN
                  go_upto_region 23 with fail
                  clear r1
                  · skip
                    refine wp_calm (fun w' => Below w.heap.size w w' ∧ GridI w' (.slice (some ⟨g, 0, none⟩) ps.length ps.length) ps ∧ GridR w' (.slice (some ⟨b3, o3, none⟩) ps.length c3) ps ∧ IntsL w' dv zs ∧ CellAt w' ⟨g, i, none⟩ (.slice (some ⟨gi', 0, none⟩) ps.length ps.length) ∧ CellAt w' ⟨gi', k * 2, none⟩ (.bool s1) ∧ CellAt w' ⟨gi', k * 2 + 1, none⟩ (.slice m1 l1 c1) ∧ CellAt w' ⟨b3, o3 + i, none⟩ (.slice (some ⟨b4, o4, none⟩) ps.length c4) ∧ CellAt w' ⟨b4, o4 + k * 2, none⟩ (.bool s2) ∧ CellAt w' ⟨b4, o4 + k * 2 + 1, none⟩ (.slice m2 l2 c2) ∧ IntAt w' (.agg #[.bool s1, .slice m1 l1 c1]) z ∧ RInt w' (.agg #[.bool s2, .slice m2 l2 c2]) z) (fun _ => true) 16 #[false, false, false, false, false, false, false, false, false, false, false, false, false, false, false, false] (by kernel_rfl) rfl rfl ?_
                    have HF := hide (And.intro (HB.out.drew) (And.intro ((GI.out.below (Below.refl _ _).drew)) (And.intro ((GR.out.below (Below.refl _ _).drew)) (And.intro ((IL.out.below (Below.refl _ _).drew)) (And.intro (R1.out.drew) (And.intro (K1.out.drew) (And.intro (K2.out.drew) (And.intro (R2.out.drew) (And.intro (Q1.out.drew) (And.intro (Q2.out.drew) (And.intro (I1.out.drew) (I2.out.drew))))))))))))
                    generalize wr.drew = wrd at *
                    refine Calm.takeL 16 (i := 0) (v := ?_) (a' := ?_) (l' := #[true, false, false, false, false, false, false, false, false, false, false, false, false, false, false, false]) (d := some 97) (by kernel_rfl) rfl (by kernel_rfl) (by kernel_rfl) (by kernel_rfl) (by kernel_rfl) (fun _ _ _ h => h) HF.out rfl ?_ rfl rfl ?_ ?_
                    rotate_left
                    · intro w' hF; clear hF; go_simp; try rfl
                    rotate_left
                    · simp only [Act.put]; exact rfl
                    refine Calm.takeL 16 (i := 1) (v := ?_) (a' := ?_) (l' := #[true, true, false, false, false, false, false, false, false, false, false, false, false, false, false, false]) (d := some 98) (by kernel_rfl) rfl (by kernel_rfl) (by kernel_rfl) (by kernel_rfl) (by kernel_rfl) (fun _ _ _ h => h) HF.out rfl ?_ rfl rfl ?_ ?_
                    rotate_left
                    · intro w' hF; clear hF; go_simp; try rfl
                    rotate_left
                    · simp only [Act.put]; exact rfl
                    refine Calm.takeL 16 (i := 2) (v := ?_) (a' := ?_) (l' := #[true, true, true, false, false, false, false, false, false, false, false, false, false, false, false, false]) (d := some 99) (by kernel_rfl) rfl (by kernel_rfl) (by kernel_rfl) (by kernel_rfl) (by kernel_rfl) (fun _ _ _ h => h) HF.out rfl ?_ rfl rfl ?_ ?_
                    rotate_left
                    · intro w' hF; clear hF; go_simp; try rfl
                    rotate_left
                    · simp only [Act.put]; exact rfl
                    refine Calm.takeL 16 (i := 3) (v := ?_) (a' := ?_) (l' := #[true, true, true, true, false, false, false, false, false, false, false, false, false, false, false, false]) (d := some 100) (by kernel_rfl) rfl (by kernel_rfl) (by kernel_rfl) (by kernel_rfl) (by kernel_rfl) (fun _ _ _ h => h) HF.out rfl ?_ rfl rfl ?_ ?_
                    rotate_left
                    · intro w' hF; have f40 := hF.2.2.2.2.1.out; have f50 := hF.2.2.2.2.2.1.out; have f60 := hF.2.2.2.2.2.2.1.out; have f70 := hF.2.2.2.2.2.2.2.1.out; have f80 := hF.2.2.2.2.2.2.2.2.1.out; have f90 := hF.2.2.2.2.2.2.2.2.2.1.out; clear hF; go_simp; try rfl
                    rotate_left
                    · simp only [Act.put]; exact rfl
                    refine Calm.takeL 16 (i := 4) (v := ?_) (a' := ?_) (l' := #[true, true, true, true, true, false, false, false, false, false, false, false, false, false, false, false]) (d := some 101) (by kernel_rfl) rfl (by kernel_rfl) (by kernel_rfl) (by kernel_rfl) (by kernel_rfl) (fun _ _ _ h => h) HF.out rfl ?_ rfl rfl ?_ ?_
                    rotate_left
                    · intro w' hF; clear hF; go_simp; try rfl
                    rotate_left
                    · simp only [Act.put]; exact rfl
                    refine Calm.takeL 16 (i := 5) (v := ?_) (a' := ?_) (l' := #[true, true, true, true, true, true, false, false, false, false, false, false, false, false, false, false]) (d := some 102) (by kernel_rfl) rfl (by kernel_rfl) (by kernel_rfl) (by kernel_rfl) (by kernel_rfl) (fun _ _ _ h => h) HF.out rfl ?_ rfl rfl ?_ ?_
                    rotate_left
                    · intro w' hF; clear hF; go_simp; try rfl
                    rotate_left
                    · simp only [Act.put]; exact rfl
                    refine Calm.takeL 16 (i := 6) (v := ?_) (a' := ?_) (l' := #[true, true, true, true, true, true, true, false, false, false, false, false, false, false, false, false]) (d := some 103) (by kernel_rfl) rfl (by kernel_rfl) (by kernel_rfl) (by kernel_rfl) (by kernel_rfl) (fun _ _ _ h => h) HF.out rfl ?_ rfl rfl ?_ ?_
                    rotate_left
                    · intro w' hF; have f40 := hF.2.2.2.2.1.out; have f50 := hF.2.2.2.2.2.1.out; have f60 := hF.2.2.2.2.2.2.1.out; have f70 := hF.2.2.2.2.2.2.2.1.out; have f80 := hF.2.2.2.2.2.2.2.2.1.out; have f90 := hF.2.2.2.2.2.2.2.2.2.1.out; clear hF; go_simp; try rfl
                    rotate_left
                    · simp only [Act.put]; exact rfl
                    refine Calm.takeL 16 (i := 7) (v := ?_) (a' := ?_) (l' := #[true, true, true, true, true, true, true, true, false, false, false, false, false, false, false, false]) (d := some 104) (by kernel_rfl) rfl (by kernel_rfl) (by kernel_rfl) (by kernel_rfl) (by kernel_rfl) (fun _ _ _ h => h) HF.out rfl ?_ rfl rfl ?_ ?_
                    rotate_left
                    · intro w' hF; clear hF; go_simp; try rfl
                    rotate_left
                    · simp only [Act.put]; exact rfl
                    refine Calm.takeL 16 (i := 8) (v := ?_) (a' := ?_) (l' := #[true, true, true, true, true, true, true, true, true, false, false, false, false, false, false, false]) (d := some 105) (by kernel_rfl) rfl (by kernel_rfl) (by kernel_rfl) (by kernel_rfl) (by kernel_rfl) (fun _ _ _ h => h) HF.out rfl ?_ rfl rfl ?_ ?_
                    rotate_left
                    · intro w' hF; clear hF; go_simp; try rfl
                    rotate_left
                    · simp only [Act.put]; exact rfl
                    refine Calm.takeL 16 (i := 9) (v := ?_) (a' := ?_) (l' := #[true, true, true, true, true, true, true, true, true, true, false, false, false, false, false, false]) (d := some 106) (by kernel_rfl) rfl (by kernel_rfl) (by kernel_rfl) (by kernel_rfl) (by kernel_rfl) (fun _ _ _ h => h) HF.out rfl ?_ rfl rfl ?_ ?_
                    rotate_left
                    · intro w' hF; clear hF; go_simp; try rfl
                    rotate_left
                    · simp only [Act.put]; exact rfl
                    refine Calm.takeL 16 (i := 10) (v := ?_) (a' := ?_) (l' := #[true, true, true, true, true, true, true, true, true, true, true, false, false, false, false, false]) (d := some 107) (by kernel_rfl) rfl (by kernel_rfl) (by kernel_rfl) (by kernel_rfl) (by kernel_rfl) (fun _ _ _ h => h) HF.out rfl ?_ rfl rfl ?_ ?_
                    rotate_left
                    · intro w' hF; have f40 := hF.2.2.2.2.1.out; have f50 := hF.2.2.2.2.2.1.out; have f60 := hF.2.2.2.2.2.2.1.out; have f70 := hF.2.2.2.2.2.2.2.1.out; have f80 := hF.2.2.2.2.2.2.2.2.1.out; have f90 := hF.2.2.2.2.2.2.2.2.2.1.out; clear hF; go_simp; try rfl
                    rotate_left
                    · simp only [Act.put]; exact rfl
                    refine Calm.takeL 16 (i := 11) (v := ?_) (a' := ?_) (l' := #[true, true, true, true, true, true, true, true, true, true, true, true, false, false, false, false]) (d := some 108) (by kernel_rfl) rfl (by kernel_rfl) (by kernel_rfl) (by kernel_rfl) (by kernel_rfl) (fun _ _ _ h => h) HF.out rfl ?_ rfl rfl ?_ ?_
                    rotate_left
                    · intro w' hF; clear hF; go_simp; try rfl
                    rotate_left
                    · simp only [Act.put]; exact rfl
                    refine Calm.takeL 16 (i := 12) (v := ?_) (a' := ?_) (l' := #[true, true, true, true, true, true, true, true, true, true, true, true, true, false, false, false]) (d := some 109) (by kernel_rfl) rfl (by kernel_rfl) (by kernel_rfl) (by kernel_rfl) (by kernel_rfl) (fun _ _ _ h => h) HF.out rfl ?_ rfl rfl ?_ ?_
                    rotate_left
                    · intro w' hF; clear hF; go_simp; try rfl
                    rotate_left
                    · simp only [Act.put]; exact rfl
                    refine Calm.takeL 16 (i := 13) (v := ?_) (a' := ?_) (l' := #[true, true, true, true, true, true, true, true, true, true, true, true, true, true, false, false]) (d := some 110) (by kernel_rfl) rfl (by kernel_rfl) (by kernel_rfl) (by kernel_rfl) (by kernel_rfl) (fun _ _ _ h => h) HF.out rfl ?_ rfl rfl ?_ ?_
                    rotate_left
                    · intro w' hF; have f40 := hF.2.2.2.2.1.out; have f50 := hF.2.2.2.2.2.1.out; have f60 := hF.2.2.2.2.2.2.1.out; have f70 := hF.2.2.2.2.2.2.2.1.out; have f80 := hF.2.2.2.2.2.2.2.2.1.out; have f90 := hF.2.2.2.2.2.2.2.2.2.1.out; clear hF; go_simp; try rfl
                    rotate_left
                    · simp only [Act.put]; exact rfl
                    refine Calm.one (i := 14) (l' := #[true, true, true, true, true, true, true, true, true, true, true, true, true, true, true, false]) (by kernel_rfl) rfl rfl rfl fun K hK => ?_
                    go_simp
                    refine (one12_yes _ _ z _ HF.out.2.2.2.2.2.2.2.2.2.2.1 HF.out.2.2.2.2.2.2.2.2.2.2.2 LK.out).mono ?_
                    rintro e x1 ⟨rfl, hb⟩
                    have HF' := hide (And.intro (HF.out.1.trans ((hb).mono HF.out.1.size)) (And.intro (HF.out.2.1.below (hb)) (And.intro (HF.out.2.2.1.below (hb)) (And.intro (HF.out.2.2.2.1.below (hb)) (And.intro (HF.out.2.2.2.2.1.step (hb)) (And.intro (HF.out.2.2.2.2.2.1.step (hb)) (And.intro (HF.out.2.2.2.2.2.2.1.step (hb)) (And.intro (HF.out.2.2.2.2.2.2.2.1.step (hb)) (And.intro (HF.out.2.2.2.2.2.2.2.2.1.step (hb)) (And.intro (HF.out.2.2.2.2.2.2.2.2.2.1.step (hb)) (And.intro (HF.out.2.2.2.2.2.2.2.2.2.2.1.below (hb)) (HF.out.2.2.2.2.2.2.2.2.2.2.2.below (hb)))))))))))))
                    refine hK _ _ (fun _ => HF'.out) ?_
                    clear hK K HF hb
                    have HF := hide HF'.out
                    clear HF'
                    refine Calm.takeL 16 (i := 15) (v := ?_) (a' := ?_) (l' := #[true, true, true, true, true, true, true, true, true, true, true, true, true, true, true, true]) (d := some 112) (by kernel_rfl) rfl (by kernel_rfl) (by kernel_rfl) (by kernel_rfl) (by kernel_rfl) (fun _ _ _ h => h) HF.out rfl ?_ rfl rfl ?_ ?_
                    rotate_left
                    · intro w' hF; clear hF; go_simp; try rfl
                    rotate_left
                    · simp only [Act.put]; exact rfl
                    refine Calm.done (by kernel_rfl) ?_
                    replace HB := hide HF.out.1
                    replace GI := hide HF.out.2.1
                    replace GR := hide HF.out.2.2.1
                    replace IL := hide HF.out.2.2.2.1
                    have RR1 := hide HF.out.2.2.2.2.1
                    have RR2 := hide HF.out.2.2.2.2.2.2.2.1
                    clear HF R1 K1 K2 R2 Q1 Q2 I1 I2
                    try simp only [List.setIfInBounds_toArray, List.set_cons_succ, List.set_cons_zero]
                    go_wp2
                    go_roundw
                    case rel => exact ⟨k + 1, by omega, by go_num, GI.out, GR.out, IL.out, HB.out, RR1.out, RR2.out⟩
                    case measure => simp [intOf]; omega
                · go_wp2
                  go_roundw
                  case rel => exact ⟨i + 1, by omega, by go_num, GI.out, GR.out, IL.out, HB.out⟩
                  case measure => simp [intOf]; omega
            · have e : i = ps.length := by omega
              subst e
              rw [DV.out] at IL
              go_wp2_with fail
              refine (rdv_any _ ps _ (HI.out.below HB.out) RG.out).mono ?_
              rintro e w8 ⟨v8, zs', rfl, hdl, hil, hb⟩
              have e4 : zs' = zs := hdl.same DL.out
              subst e4
              replace HB := hide (HB.out.trans (hb.mono HB.out.size))
              replace IL := hide (IL.out.below hb)
              have JL := hide hil
              obtain ⟨da2, dc3, rfl, dc4, dc5, _⟩ := hil
              unfold maxLen at dc5
              clear hb hdl GI GR
              go_wp2
              go_loopw [12] (fun iv wr => ∃ k : Nat, k ≤ zs'.length ∧ iv = .int .i64 k ∧ IntsL wr (.slice da zs'.length dc) zs' ∧ IntsL wr (.slice da2 zs'.length dc3) zs' ∧ Below w.heap.size w wr) (fun iv _ => zs'.length - (intOf iv).toNat)
              case atStart => exact ⟨0, Nat.zero_le _, rfl, IL.out, JL.out, HB.out⟩
              case round =>
                clear IL JL HB
                obtain ⟨k, hk, rfl, h1, h2, hb⟩ := hrel
                have IL := hide h1
                have JL := hide h2
                have HB := hide hb
                clear h1 h2 hb
                by_cases hlk : k < zs'.length
                · obtain ⟨b6, o6, e6, k6⟩ := IL.out.at hlk
                  obtain ⟨b7, o7, e7, k7⟩ := JL.out.at hlk
                  subst e6 e7
                  generalize zs'.getD k 0 = z at *
                  go_wp2
                  go_region
                  all_goals
                    go_wp2
                    go_roundw
                    case rel => exact ⟨k + 1, by omega, by go_num, IL.out.below (Below.refl _ _).drew, JL.out.below (Below.refl _ _).drew, HB.out.drew⟩
                    case measure => simp [intOf]; omega
                · go_wp2
                  go_ret
                  exact ⟨rfl, HB.out⟩
        · exact absurd RG.out h
      · exact absurd RG.out h
end Go.Proofs.Ytapodkjmhenceaa
