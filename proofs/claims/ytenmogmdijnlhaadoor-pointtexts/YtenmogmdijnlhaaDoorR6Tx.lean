/- swageref06.Text: a point's text. -/
import Derived.Test.YtenmogmdijnlhaaDoorR6Fig
import Derived.Deep.Cut
import Derived.Test.YtenmogmdijnlhaaDoorPtrC
import Derived.Test.YtenmogmdijnlhaaDoorCalmL
namespace Go.Proofs.YtenmogmdijnlhaaDoor
open Go.RowKit

def BoxP (W : World) (B : Nat) (x y : Value) : Prop := Box2 W B 43 x y
theorem BoxP.cell0 {W : World} {B : Nat} {x y : Value} (h : BoxP W B x y) : W.cell? ⟨B, 0, none⟩ = some x := Box2.cell0 h
theorem BoxP.cell1 {W : World} {B : Nat} {x y : Value} (h : BoxP W B x y) : W.cell? ⟨B, 1, none⟩ = some y := Box2.cell1 h
theorem BoxP.lt {W : World} {B : Nat} {x y : Value} (h : BoxP W B x y) : B < W.heap.size := Box2.lt h
theorem BoxP.step {W W' : World} {B : Nat} {x y : Value} (h : BoxP W B x y) (hb : Below W.heap.size W W') : BoxP W' B x y := Box2.step h hb
theorem BoxP.drew {W : World} {B : Nat} {x y : Value} (h : BoxP W B x y) : BoxP W.drew B x y := h
theorem BoxP.new (W : World) (x y : Value) : BoxP (W.alloc (.cells #[x, y] 43)) W.heap.size x y := Box2.new W _ x y

set_option maxRecDepth 100000 in
set_option maxHeartbeats 4000000 in
theorem rptx_any (pa pb : Int) (w : World) (ha : -9223372036854775808 ≤ pa) (ha' : pa ≤ 9223372036854775807) (hb : -9223372036854775808 ≤ pb) (hb' : pb ≤ 9223372036854775807) :
    Calls Tryd.prog 32 #[.agg #[.int .i64 pa, .int .i64 pb]] w fun e w' => e = .returned (.string (ptx pa pb)) ∧ Below w.heap.size w w' := by
  have RA := hide (And.intro ha (And.intro ha' (And.intro hb hb')))
  clear ha ha' hb hb'
  obtain ⟨px, hpx⟩ : ∃ px, px = ptx pa pb := ⟨_, rfl⟩
  obtain ⟨ta, hta⟩ : ∃ ta, ta = itB pa := ⟨_, rfl⟩
  obtain ⟨tb, htb⟩ : ∃ tb, tb = itB pb := ⟨_, rfl⟩
  have la : ta.size ≤ 21 := by rw [hta]; exact itB_size pa RA.out.1 RA.out.2.1
  have lb : tb.size ≤ 21 := by rw [htb]; exact itB_size pb RA.out.2.2.1 RA.out.2.2.2
  have FA : Hid (∀ w, Calls Tryd.prog 59 #[.int .i64 pa] w fun e w' => e = .returned (.string ta) ∧ Below w.heap.size w w') := hide (by rw [hta]; exact fun w => fig_any pa w RA.out.1 RA.out.2.1)
  have FB : Hid (∀ w, Calls Tryd.prog 59 #[.int .i64 pb] w fun e w' => e = .returned (.string tb) ∧ Below w.heap.size w w') := hide (by rw [htb]; exact fun w => fig_any pb w RA.out.2.2.1 RA.out.2.2.2)
  unfold ptx at hpx
  rw [← hta, ← htb] at hpx
  have PT := hide hpx
  rw [show ptx pa pb = px from by rw [PT.out, hta, htb]; rfl]
  clear hta htb hpx
  have z1 : ¬ 9223372036854775807 < ta.size + 1 := by omega
  have z2 : ¬ 9223372036854775807 < ta.size + 1 + tb.size := by omega
  have z3 : ¬ 9223372036854775807 < 1 + ta.size := by omega
  have z4 : ¬ 9223372036854775807 < 1 + ta.size + 1 := by omega
  have z5 : ¬ 9223372036854775807 < 1 + ta.size + 1 + tb.size := by omega
  have z6 : ¬ 9223372036854775807 < 1 + ta.size + 1 + tb.size + 1 := by omega
  have P0 := BoxP.new w (.int .i64 pa) (.int .i64 pb)
  replace P0 := hide P0
  have HB := below_alloc w (.cells #[.int .i64 pa, .int .i64 pb] 43)
  replace HB := hide HB
  go_enter Tryd.func32, Tryd.ntmps32
  go_upto_region 1 with fail
  generalize (w.alloc (.cells #[.int .i64 pa, .int .i64 pb] 43)) = w0 at *
  have hP00 := P0.out.cell0
  have hP01 := P0.out.cell1
  by_cases h1 : pb = 1
  · have e := PT.out
    rw [if_pos h1] at e
    subst h1 e
    go_wp2_with fail
    clear hP00 hP01
    refine (FA.out _).mono ?_
    rintro e u1 ⟨rfl, hb⟩
    replace P0 := hide (P0.out.step (hb))
    replace HB := hide (HB.out.trans ((hb).mono HB.out.size))
    clear hb
    go_wp2
    go_ret
    exact ⟨rfl, HB.out⟩
  · have e1 := PT.out
    rw [if_neg h1] at e1
    have b1 : (pb == 1) = false := by simpa using h1
    have E1 := hide e1
    clear e1 PT
    by_cases h2 : pa = 1 ∧ pb = 0
    · have e := E1.out
      rw [if_pos h2] at e
      obtain ⟨rfl, rfl⟩ := h2
      subst e
      go_wp2
      go_ret
      exact ⟨rfl, HB.out⟩
    · by_cases ha1 : pa = 1
      · have b0 : (pb == 0) = false := by simp; exact fun h => h2 ⟨ha1, h⟩
        have E2 := E1.out
        rw [if_neg h2] at E2
        have E3 := hide E2
        clear E2 E1 h2
        have a1 : (pa == 1) = true := by simpa using ha1
        clear ha1
        go_wp2_with fail
        clear hP00 hP01
        try clear b1
        try clear h1
        try clear a1
        try clear b0
        go_cut [3, 4] from 19 (fun pt0 pt1 wx => ∃ gq sa ma na ka gr sb mb nb kb, pt0 = .pointer (some ⟨gq, 0, none⟩) ∧ w0.heap.size ≤ gq ∧ Box2 wx gq 61 (.bool sa) (.slice ma na ka) ∧ RInt wx (.agg #[.bool sa, .slice ma na ka]) pa ∧ pt1 = .pointer (some ⟨gr, 0, none⟩) ∧ w0.heap.size ≤ gr ∧ Box2 wx gr 61 (.bool sb) (.slice mb nb kb) ∧ RInt wx (.agg #[.bool sb, .slice mb nb kb]) pb ∧ gq ≠ gr ∧ Below w0.heap.size w0 wx)
        case first =>
          refine wp_facts (fun L T wq => Below w0.heap.size w0 wq ∧ T 1 = .pointer (some ⟨w.heap.size, 0, none⟩) ∧ (L 0 = true → T 19 = .pointer (some ⟨w.heap.size, 0, none⟩)) ∧ (L 1 = true → T 20 = .int .i64 pa) ∧ (L 3 = true → T 22 = .pointer (some ⟨w.heap.size, 1, none⟩)) ∧ (L 4 = true → T 23 = .int .i64 pb) ∧ (L 2 = true → RInt wq (T 21) pa) ∧ (L 5 = true → RInt wq (T 24) pb) ∧ (L 6 = true → PS w0.heap.size wq (T 3)) ∧ (L 6 = true → L 8 = false → PB w0.heap.size wq 61 (T 3) [.bool false, .slice none 0 0]) ∧ (L 7 = true → PS w0.heap.size wq (T 4)) ∧ (L 7 = true → L 9 = false → PB w0.heap.size wq 61 (T 4) [.bool false, .slice none 0 0]) ∧ (L 6 = true → L 7 = true → T 3 ≠ T 4) ∧ (L 8 = true → PV w0.heap.size wq 61 (T 3) (T 21)) ∧ (L 9 = true → PV w0.heap.size wq 61 (T 4) (T 24))) 53 [3, 4, 19, 20, 21, 22, 23, 24] [0, 1, 2, 3, 4, 5, 6, 7, 8, 9] (by kernel_rfl) (by kernel_rfl) (by kernel_rfl) (by kernel_rfl) ?_ ?_ ?_
          · exact ⟨(Below.refl w0.heap.size w0).drew, rfl, no_yet, no_yet, no_yet, no_yet, no_yet, no_yet, no_yet, no_yet, no_yet, no_yet, no_yet, no_yet, no_yet⟩
          · intro i hi
            match i, hi with
            | 0, _ =>
              refine StepAt.of (need := []) (later := []) (k := 6) (d := some 19) rfl rfl (by kernel_rfl) (by kernel_rfl) ?_
              intro L T wq ev a he hL hN hM hJ next hnext
              have e1 := (he.tmp 1).trans hJ.2.1
              go_simp
              exact hnext _ _ ⟨hJ.1, hJ.2.1, fun _ => rfl, hJ.2.2.2.1, hJ.2.2.2.2.1, hJ.2.2.2.2.2.1, hJ.2.2.2.2.2.2.1, hJ.2.2.2.2.2.2.2.1, hJ.2.2.2.2.2.2.2.2.1, hJ.2.2.2.2.2.2.2.2.2.1, hJ.2.2.2.2.2.2.2.2.2.2.1, hJ.2.2.2.2.2.2.2.2.2.2.2.1, hJ.2.2.2.2.2.2.2.2.2.2.2.2.1, hJ.2.2.2.2.2.2.2.2.2.2.2.2.2.1, hJ.2.2.2.2.2.2.2.2.2.2.2.2.2.2⟩
            | 1, _ =>
              refine StepAt.of (need := [0]) (later := []) (k := 6) (d := some 20) rfl rfl (by kernel_rfl) (by kernel_rfl) ?_
              intro L T wq ev a he hL hN hM hJ next hnext
              have e19 := (he.tmp 19).trans (hJ.2.2.1 (hN.1))
              have hcl0 := ((P0.out).step hJ.1).cell0
              go_simp
              exact hnext _ _ ⟨hJ.1, hJ.2.1, hJ.2.2.1, fun _ => rfl, hJ.2.2.2.2.1, hJ.2.2.2.2.2.1, hJ.2.2.2.2.2.2.1, hJ.2.2.2.2.2.2.2.1, hJ.2.2.2.2.2.2.2.2.1, hJ.2.2.2.2.2.2.2.2.2.1, hJ.2.2.2.2.2.2.2.2.2.2.1, hJ.2.2.2.2.2.2.2.2.2.2.2.1, hJ.2.2.2.2.2.2.2.2.2.2.2.2.1, hJ.2.2.2.2.2.2.2.2.2.2.2.2.2.1, hJ.2.2.2.2.2.2.2.2.2.2.2.2.2.2⟩
            | 2, _ =>
              refine StepAt.of (need := [1]) (later := [8]) (k := 6) (d := some 21) rfl rfl (by kernel_rfl) (by kernel_rfl) ?_
              intro L T wq ev a he hL hN hM hJ next hnext
              have e20 := (he.tmp 20).trans (hJ.2.2.2.1 (hN.1))
              have ef := he.func
              go_simp
              refine (rof_any pa _ RA.out.1 RA.out.2.1).mono ?_
              rintro e wq' ⟨v, rfl, i, hb⟩
              exact hnext _ _ ⟨hJ.1.trans ((hb).mono hJ.1.size), hJ.2.1, hJ.2.2.1, hJ.2.2.2.1, hJ.2.2.2.2.1, hJ.2.2.2.2.2.1, fun _ => i, fun h => (hJ.2.2.2.2.2.2.2.1 h).below (hb), fun h => (hJ.2.2.2.2.2.2.2.2.1 h).step (hb), fun h h' => (hJ.2.2.2.2.2.2.2.2.2.1 h h').step (hb), fun h => (hJ.2.2.2.2.2.2.2.2.2.2.1 h).step (hb), fun h h' => (hJ.2.2.2.2.2.2.2.2.2.2.2.1 h h').step (hb), hJ.2.2.2.2.2.2.2.2.2.2.2.2.1, fun h => clash (hM.1) h, fun h => (hJ.2.2.2.2.2.2.2.2.2.2.2.2.2.2 h).step (hb)⟩
            | 3, _ =>
              refine StepAt.of (need := []) (later := []) (k := 6) (d := some 22) rfl rfl (by kernel_rfl) (by kernel_rfl) ?_
              intro L T wq ev a he hL hN hM hJ next hnext
              have e1 := (he.tmp 1).trans hJ.2.1
              go_simp
              exact hnext _ _ ⟨hJ.1, hJ.2.1, hJ.2.2.1, hJ.2.2.2.1, fun _ => rfl, hJ.2.2.2.2.2.1, hJ.2.2.2.2.2.2.1, hJ.2.2.2.2.2.2.2.1, hJ.2.2.2.2.2.2.2.2.1, hJ.2.2.2.2.2.2.2.2.2.1, hJ.2.2.2.2.2.2.2.2.2.2.1, hJ.2.2.2.2.2.2.2.2.2.2.2.1, hJ.2.2.2.2.2.2.2.2.2.2.2.2.1, hJ.2.2.2.2.2.2.2.2.2.2.2.2.2.1, hJ.2.2.2.2.2.2.2.2.2.2.2.2.2.2⟩
            | 4, _ =>
              refine StepAt.of (need := [3]) (later := []) (k := 6) (d := some 23) rfl rfl (by kernel_rfl) (by kernel_rfl) ?_
              intro L T wq ev a he hL hN hM hJ next hnext
              have e22 := (he.tmp 22).trans (hJ.2.2.2.2.1 (hN.1))
              have hcl1 := ((P0.out).step hJ.1).cell1
              go_simp
              exact hnext _ _ ⟨hJ.1, hJ.2.1, hJ.2.2.1, hJ.2.2.2.1, hJ.2.2.2.2.1, fun _ => rfl, hJ.2.2.2.2.2.2.1, hJ.2.2.2.2.2.2.2.1, hJ.2.2.2.2.2.2.2.2.1, hJ.2.2.2.2.2.2.2.2.2.1, hJ.2.2.2.2.2.2.2.2.2.2.1, hJ.2.2.2.2.2.2.2.2.2.2.2.1, hJ.2.2.2.2.2.2.2.2.2.2.2.2.1, hJ.2.2.2.2.2.2.2.2.2.2.2.2.2.1, hJ.2.2.2.2.2.2.2.2.2.2.2.2.2.2⟩
            | 5, _ =>
              refine StepAt.of (need := [4]) (later := [9]) (k := 6) (d := some 24) rfl rfl (by kernel_rfl) (by kernel_rfl) ?_
              intro L T wq ev a he hL hN hM hJ next hnext
              have e23 := (he.tmp 23).trans (hJ.2.2.2.2.2.1 (hN.1))
              have ef := he.func
              go_simp
              refine (rof_any pb _ RA.out.2.2.1 RA.out.2.2.2).mono ?_
              rintro e wq' ⟨v, rfl, i, hb⟩
              exact hnext _ _ ⟨hJ.1.trans ((hb).mono hJ.1.size), hJ.2.1, hJ.2.2.1, hJ.2.2.2.1, hJ.2.2.2.2.1, hJ.2.2.2.2.2.1, fun h => (hJ.2.2.2.2.2.2.1 h).below (hb), fun _ => i, fun h => (hJ.2.2.2.2.2.2.2.2.1 h).step (hb), fun h h' => (hJ.2.2.2.2.2.2.2.2.2.1 h h').step (hb), fun h => (hJ.2.2.2.2.2.2.2.2.2.2.1 h).step (hb), fun h h' => (hJ.2.2.2.2.2.2.2.2.2.2.2.1 h h').step (hb), hJ.2.2.2.2.2.2.2.2.2.2.2.2.1, fun h => (hJ.2.2.2.2.2.2.2.2.2.2.2.2.2.1 h).step (hb), fun h => clash (hM.1) h⟩
            | 6, _ =>
              refine StepAt.of (need := []) (later := [8]) (k := 6) (d := some 3) rfl rfl (by kernel_rfl) (by kernel_rfl) ?_
              intro L T wq ev a he hL hN hM hJ next hnext
              go_simp
              have hb := below_alloc wq (.cells #[.bool false, .slice none 0 0] 61)
              exact hnext _ _ ⟨hJ.1.trans ((hb).mono hJ.1.size), hJ.2.1, hJ.2.2.1, hJ.2.2.2.1, hJ.2.2.2.2.1, hJ.2.2.2.2.2.1, fun h => (hJ.2.2.2.2.2.2.1 h).below (hb), fun h => (hJ.2.2.2.2.2.2.2.1 h).below (hb), fun _ => PS.new hJ.1.size _, fun _ _ => PB.new hJ.1.size _ [.bool false, .slice none 0 0], fun h => (hJ.2.2.2.2.2.2.2.2.2.2.1 h).step (hb), fun h h' => (hJ.2.2.2.2.2.2.2.2.2.2.2.1 h h').step (hb), fun _ h => Ne.symm (hJ.2.2.2.2.2.2.2.2.2.2.1 h).ne, fun h => clash (hM.1) h, fun h => (hJ.2.2.2.2.2.2.2.2.2.2.2.2.2.2 h).step (hb)⟩
            | 7, _ =>
              refine StepAt.of (need := []) (later := [9]) (k := 6) (d := some 4) rfl rfl (by kernel_rfl) (by kernel_rfl) ?_
              intro L T wq ev a he hL hN hM hJ next hnext
              go_simp
              have hb := below_alloc wq (.cells #[.bool false, .slice none 0 0] 61)
              exact hnext _ _ ⟨hJ.1.trans ((hb).mono hJ.1.size), hJ.2.1, hJ.2.2.1, hJ.2.2.2.1, hJ.2.2.2.2.1, hJ.2.2.2.2.2.1, fun h => (hJ.2.2.2.2.2.2.1 h).below (hb), fun h => (hJ.2.2.2.2.2.2.2.1 h).below (hb), fun h => (hJ.2.2.2.2.2.2.2.2.1 h).step (hb), fun h h' => (hJ.2.2.2.2.2.2.2.2.2.1 h h').step (hb), fun _ => PS.new hJ.1.size _, fun _ _ => PB.new hJ.1.size _ [.bool false, .slice none 0 0], fun h _ => (hJ.2.2.2.2.2.2.2.2.1 h).ne, fun h => (hJ.2.2.2.2.2.2.2.2.2.2.2.2.2.1 h).step (hb), fun h => clash (hM.1) h⟩
            | 8, _ =>
              refine StepAt.of (need := [6, 2, 7]) (later := []) (k := 6) (d := none) rfl rfl (by kernel_rfl) (by kernel_rfl) ?_
              intro L T wq ev a he hL hN hM hJ next hnext
              obtain ⟨g, hg, hge, hbx⟩ := hJ.2.2.2.2.2.2.2.2.2.1 (hN.1) hL
              obtain ⟨sv, mv, nv, cv, hv, iv⟩ := (hJ.2.2.2.2.2.2.1 (hN.2.1)).cells
              have e3 := (he.tmp 3).trans hg
              have e21 := (he.tmp 21).trans hv
              have hc0 := hbx.cell 0 rfl
              have hf0 := hbx.free 0
              have hc1 := hbx.cell 1 rfl
              have hf1 := hbx.free 1
              have hk := keeps_all hbx (by intro c hc z e; subst e; simp at hc) [.bool sv, .slice mv nv cv] rfl
              go_simp
              exact hnext undef _ ⟨below_all hge [.bool sv, .slice mv nv cv] 0 _ hJ.1, hJ.2.1, hJ.2.2.1, hJ.2.2.2.1, hJ.2.2.2.2.1, hJ.2.2.2.2.2.1, fun h => (hJ.2.2.2.2.2.2.1 h).keep hk, fun h => (hJ.2.2.2.2.2.2.2.1 h).keep hk, fun h => (hJ.2.2.2.2.2.2.2.2.1 h).put [.bool sv, .slice mv nv cv], fun _ h => no_more h, fun h => (hJ.2.2.2.2.2.2.2.2.2.2.1 h).put [.bool sv, .slice mv nv cv], fun h h' => (hJ.2.2.2.2.2.2.2.2.2.2.2.1 h h').put hg (hJ.2.2.2.2.2.2.2.2.2.2.2.2.1 (hN.1) (hN.2.2.1)) [.bool sv, .slice mv nv cv], hJ.2.2.2.2.2.2.2.2.2.2.2.2.1, fun _ => PV.set' [.bool sv, .slice mv nv cv] hg hv hbx hge rfl, fun h => (hJ.2.2.2.2.2.2.2.2.2.2.2.2.2.2 h).put hg (hJ.2.2.2.2.2.2.2.2.2.2.2.2.1 (hN.1) (hN.2.2.1)) [.bool sv, .slice mv nv cv]⟩
            | 9, _ =>
              refine StepAt.of (need := [7, 5, 6]) (later := []) (k := 6) (d := none) rfl rfl (by kernel_rfl) (by kernel_rfl) ?_
              intro L T wq ev a he hL hN hM hJ next hnext
              obtain ⟨g, hg, hge, hbx⟩ := hJ.2.2.2.2.2.2.2.2.2.2.2.1 (hN.1) hL
              obtain ⟨sv, mv, nv, cv, hv, iv⟩ := (hJ.2.2.2.2.2.2.2.1 (hN.2.1)).cells
              have e4 := (he.tmp 4).trans hg
              have e24 := (he.tmp 24).trans hv
              have hc0 := hbx.cell 0 rfl
              have hf0 := hbx.free 0
              have hc1 := hbx.cell 1 rfl
              have hf1 := hbx.free 1
              have hk := keeps_all hbx (by intro c hc z e; subst e; simp at hc) [.bool sv, .slice mv nv cv] rfl
              go_simp
              exact hnext undef _ ⟨below_all hge [.bool sv, .slice mv nv cv] 0 _ hJ.1, hJ.2.1, hJ.2.2.1, hJ.2.2.2.1, hJ.2.2.2.2.1, hJ.2.2.2.2.2.1, fun h => (hJ.2.2.2.2.2.2.1 h).keep hk, fun h => (hJ.2.2.2.2.2.2.2.1 h).keep hk, fun h => (hJ.2.2.2.2.2.2.2.2.1 h).put [.bool sv, .slice mv nv cv], fun h h' => (hJ.2.2.2.2.2.2.2.2.2.1 h h').put hg (Ne.symm (hJ.2.2.2.2.2.2.2.2.2.2.2.2.1 (hN.2.2.1) (hN.1))) [.bool sv, .slice mv nv cv], fun h => (hJ.2.2.2.2.2.2.2.2.2.2.1 h).put [.bool sv, .slice mv nv cv], fun _ h => no_more h, hJ.2.2.2.2.2.2.2.2.2.2.2.2.1, fun h => (hJ.2.2.2.2.2.2.2.2.2.2.2.2.2.1 h).put hg (Ne.symm (hJ.2.2.2.2.2.2.2.2.2.2.2.2.1 (hN.2.2.1) (hN.1))) [.bool sv, .slice mv nv cv], fun _ => PV.set' [.bool sv, .slice mv nv cv] hg hv hbx hge rfl⟩
            | k + 10, hi => exact absurd hi (Nat.not_lt.2 (Nat.le_add_left 10 k))
          · intro L a wq hA hJ hs hd hf
            obtain ⟨gq, cs0, hp0, hge0, hv0, hb0⟩ := hJ.2.2.2.2.2.2.2.2.2.2.2.2.2.1 (hA.2.2.2.2.2.2.2.2.1)
            have i0 := hJ.2.2.2.2.2.2.1 (hA.2.2.1)
            obtain ⟨sa, ma, na, ka, hq0, i0⟩ := i0.cells
            rw [hq0, Value.agg.injEq] at hv0
            have hl0 : cs0 = _ := congrArg Array.toList hv0.symm
            subst hl0
            obtain ⟨gr, cs1, hp1, hge1, hv1, hb1⟩ := hJ.2.2.2.2.2.2.2.2.2.2.2.2.2.2 (hA.2.2.2.2.2.2.2.2.2.1)
            have i1 := hJ.2.2.2.2.2.2.2.1 (hA.2.2.2.2.2.1)
            obtain ⟨sb, mb, nb, kb, hq1, i1⟩ := i1.cells
            rw [hq1, Value.agg.injEq] at hv1
            have hl1 : cs1 = _ := congrArg Array.toList hv1.symm
            subst hl1
            have hne0_1 : gq ≠ gr := fun e => hJ.2.2.2.2.2.2.2.2.2.2.2.2.1 (hA.2.2.2.2.2.2.1) (hA.2.2.2.2.2.2.2.1) (hp0.trans (e ▸ hp1.symm))
            refine (by assumption : ∀ a' w', Met _ a' w' → _) _ _ (Met.intro ((by assumption : ∀ a' w', _ → _) _ _ ?_))
            exact ⟨a.tmps.getD 3 undef, a.tmps.getD 4 undef, a.tmps.getD 19 undef, a.tmps.getD 20 undef, a.tmps.getD 21 undef, a.tmps.getD 22 undef, a.tmps.getD 23 undef, a.tmps.getD 24 undef, a.tmps.getD 25 undef, a.tmps.getD 26 undef, a.tmps.getD 27 undef, a.tmps.getD 28 undef, a.tmps.getD 29 undef, a.tmps.getD 30 undef, a.tmps.getD 31 undef, a.tmps.getD 32 undef, a.tmps.getD 33 undef, a.tmps.getD 34 undef, a.tmps.getD 35 undef, a.tmps.getD 36 undef, a.tmps.getD 37 undef, a.tmps.getD 38 undef, a.tmps.getD 39 undef, a.tmps.getD 40 undef, a.tmps.getD 41 undef, a.tmps.getD 42 undef, a.tmps.getD 43 undef, a.tmps.getD 44 undef, a.tmps.getD 45 undef, a.tmps.getD 46 undef, a.tmps.getD 47 undef, a.tmps.getD 48 undef, a.tmps.getD 49 undef, a.tmps.getD 50 undef, a.tmps.getD 51 undef, a.tmps.getD 52 undef, ⟨gq, sa, ma, na, ka, gr, sb, mb, nb, kb, hp0, hge0, hb0, i0, hp1, hge1, hb1, i1, hne0_1, hJ.1⟩, act_eq _ _ [3, 4, 19, 20, 21, 22, 23, 24, 25, 26, 27, 28, 29, 30, 31, 32, 33, 34, 35, 36, 37, 38, 39, 40, 41, 42, 43, 44, 45, 46, 47, 48, 49, 50, 51, 52] hf (by kernel_rfl) (hs.trans (by kernel_rfl)) hd (by kernel_rfl)⟩
        case rest =>
        obtain ⟨gq, sa, ma, na, ka, gr, sb, mb, nb, kb, rfl, hge0, hbx0, hi0, rfl, hge1, hbx1, hi1, hne0_1, hb⟩ := hcut
        replace HB := hide (HB.out.trans (hb.mono HB.out.size))
        replace P0 := hide (P0.out.step hb)
        have PQ := hide hbx0
        have PR := hide hbx1
        have I1 := hide hi0
        have I2 := hide hi1
        clear hge0 hge1 hbx0 hbx1 hi0 hi1 hne0_1 hb
        generalize hwc : wc = w5 at *
        clear hwc
        by_cases h3 : 1 < pb
        · have hP01 := P0.out.cell1
          have q0 := PQ.out.cell0
          have q1 := PQ.out.cell1
          have r0 := PR.out.cell0
          have r1 := PR.out.cell1
          go_wp2_with fail
          clear q0 q1 r0 r1 hP01
          refine (rgcd_any _ _ pa pb _ I1.out I2.out (by have := dlen64 RA.out.1 RA.out.2.1; omega) (by have := dlen64 RA.out.2.2.1 RA.out.2.2.2; omega)).mono ?_
          rintro e u1 ⟨v, rfl, n, hb⟩
          replace P0 := hide (P0.out.step (hb))
          replace HB := hide (HB.out.trans ((hb).mono HB.out.size))
          replace PQ := hide (PQ.out.step (hb))
          replace PR := hide (PR.out.step (hb))
          replace I1 := hide (I1.out.below (hb))
          replace I2 := hide (I2.out.below (hb))
          have I3 := hide (n)
          clear hb n
          clear PQ
          clear PR
          clear I1
          clear I2
          go_wp2_with fail
          refine (rof_any 1 _ (by decide) (by decide)).mono ?_
          rintro e u2 ⟨v', rfl, n, hb⟩
          replace P0 := hide (P0.out.step (hb))
          replace HB := hide (HB.out.trans ((hb).mono HB.out.size))
          replace I3 := hide (I3.out.below (hb))
          have I4 := hide (n)
          clear hb n
          go_wp2_with fail
          refine (rsameP_any _ _ _ _ _ I3.out I4.out).mono ?_
          rintro e u3 ⟨rfl, hb⟩
          replace P0 := hide (P0.out.step (hb))
          replace HB := hide (HB.out.trans ((hb).mono HB.out.size))
          replace I3 := hide (I3.out.below (hb))
          replace I4 := hide (I4.out.below (hb))
          clear hb
          clear I3
          clear I4
          have hgg : decide ((Int.gcd pa pb : Int) = 1) = decide (gI pa pb = 1) := rfl
          rw [hgg]
          clear hgg
          by_cases h4 : gI pa pb = 1
          · have e := E3.out
            rw [if_pos ⟨h3, h4⟩] at e
            rw [decide_eq_true h4]
            subst e
            clear h3 h4 E3
            go_wp2_with fail
            refine wp_calm (fun w' => Below w.heap.size w w' ∧ BoxP w' w.heap.size (.int .i64 pa) (.int .i64 pb)) (fun _ => true) 9 #[false, false, false, false, false, false, false, false, false] (by kernel_rfl) rfl rfl ?_
            have HF := hide (And.intro (HB.out.drew) (P0.out.drew))
            generalize u3.drew = u3d at *
            refine Calm.take (i := 0) (v := ?_) (a' := ?_) (l' := #[true, false, false, false, false, false, false, false, false]) (d := some 35) rfl (by kernel_rfl) (by kernel_rfl) (by kernel_rfl) (by kernel_rfl) (fun _ _ _ h => h) HF.out rfl ?_ rfl rfl ?_ ?_
            rotate_left
            · intro w' hF; clear hF; go_simp; try rfl
            rotate_left
            · simp only [Act.put]; exact rfl
            refine Calm.take (i := 1) (v := ?_) (a' := ?_) (l' := #[true, true, false, false, false, false, false, false, false]) (d := some 36) rfl (by kernel_rfl) (by kernel_rfl) (by kernel_rfl) (by kernel_rfl) (fun _ _ _ h => h) HF.out rfl ?_ rfl rfl ?_ ?_
            rotate_left
            · intro w' hF; have f10 := hF.2.cell0; have f11 := hF.2.cell1; clear hF; go_simp; try rfl
            rotate_left
            · simp only [Act.put]; exact rfl
            refine Calm.take (i := 4) (v := ?_) (a' := ?_) (l' := #[true, true, false, false, true, false, false, false, false]) (d := some 39) rfl (by kernel_rfl) (by kernel_rfl) (by kernel_rfl) (by kernel_rfl) (fun _ _ _ h => h) HF.out rfl ?_ rfl rfl ?_ ?_
            rotate_left
            · intro w' hF; clear hF; go_simp; try rfl
            rotate_left
            · simp only [Act.put]; exact rfl
            refine Calm.take (i := 5) (v := ?_) (a' := ?_) (l' := #[true, true, false, false, true, true, false, false, false]) (d := some 40) rfl (by kernel_rfl) (by kernel_rfl) (by kernel_rfl) (by kernel_rfl) (fun _ _ _ h => h) HF.out rfl ?_ rfl rfl ?_ ?_
            rotate_left
            · intro w' hF; have f10 := hF.2.cell0; have f11 := hF.2.cell1; clear hF; go_simp; try rfl
            rotate_left
            · simp only [Act.put]; exact rfl
            refine Calm.one (i := 2) (l' := #[true, true, true, false, true, true, false, false, false]) (by kernel_rfl) rfl rfl rfl fun K hK => ?_
            go_simp
            refine (FA.out _).mono ?_
            rintro e u4 ⟨rfl, hb⟩
            have HF' := hide (And.intro (HF.out.1.trans ((hb).mono HF.out.1.size)) (HF.out.2.step (hb)))
            refine hK _ _ (fun _ => HF'.out) ?_
            clear hK K HF hb
            have HF := hide HF'.out
            clear HF'
            refine Calm.take (i := 3) (v := ?_) (a' := ?_) (l' := #[true, true, true, true, true, true, false, false, false]) (d := some 38) rfl (by kernel_rfl) (by kernel_rfl) (by kernel_rfl) (by kernel_rfl) (fun _ _ _ h => h) HF.out rfl ?_ rfl rfl ?_ ?_
            rotate_left
            · intro w' hF; clear hF; go_simp; try rfl
            rotate_left
            · simp only [Act.put]; exact rfl
            refine Calm.one (i := 6) (l' := #[true, true, true, true, true, true, true, false, false]) (by kernel_rfl) rfl rfl rfl fun K hK => ?_
            go_simp
            refine (FB.out _).mono ?_
            rintro e u5 ⟨rfl, hb⟩
            have HF' := hide (And.intro (HF.out.1.trans ((hb).mono HF.out.1.size)) (HF.out.2.step (hb)))
            refine hK _ _ (fun _ => HF'.out) ?_
            clear hK K HF hb
            have HF := hide HF'.out
            clear HF'
            refine Calm.take (i := 7) (v := ?_) (a' := ?_) (l' := #[true, true, true, true, true, true, true, true, false]) (d := some 42) rfl (by kernel_rfl) (by kernel_rfl) (by kernel_rfl) (by kernel_rfl) (fun _ _ _ h => h) HF.out rfl ?_ rfl rfl ?_ ?_
            rotate_left
            · intro w' hF; clear hF; go_simp; try rfl
            rotate_left
            · simp only [Act.put]; exact rfl
            refine Calm.take (i := 8) (v := ?_) (a' := ?_) (l' := #[true, true, true, true, true, true, true, true, true]) (d := some 2) rfl (by kernel_rfl) (by kernel_rfl) (by kernel_rfl) (by kernel_rfl) (fun _ _ _ h => h) HF.out rfl ?_ rfl rfl ?_ ?_
            rotate_left
            · intro w' hF; clear hF; go_simp; try rfl
            rotate_left
            · simp only [Act.put]; exact rfl
            refine Calm.done (by kernel_rfl) ?_
            replace HB := hide HF.out.1
            replace P0 := hide HF.out.2
            clear HF
            try simp only [List.setIfInBounds_toArray, List.set_cons_succ, List.set_cons_zero]
            go_wp2
            go_ret
            exact ⟨rfl, HB.out⟩
          · have e := E3.out
            rw [if_neg (fun h => h4 h.2)] at e
            rw [decide_eq_false h4]
            subst e
            clear h3 h4 E3
            go_wp2_with fail
            refine wp_calm (fun w' => Below w.heap.size w w' ∧ BoxP w' w.heap.size (.int .i64 pa) (.int .i64 pb)) (fun _ => true) 11 #[false, false, false, false, false, false, false, false, false, false, false] (by kernel_rfl) rfl rfl ?_
            have HF := hide (And.intro (HB.out.drew) (P0.out.drew))
            generalize u3.drew = u3d at *
            refine Calm.take (i := 0) (v := ?_) (a' := ?_) (l' := #[true, false, false, false, false, false, false, false, false, false, false]) (d := some 43) rfl (by kernel_rfl) (by kernel_rfl) (by kernel_rfl) (by kernel_rfl) (fun _ _ _ h => h) HF.out rfl ?_ rfl rfl ?_ ?_
            rotate_left
            · intro w' hF; clear hF; go_simp; try rfl
            rotate_left
            · simp only [Act.put]; exact rfl
            refine Calm.take (i := 1) (v := ?_) (a' := ?_) (l' := #[true, true, false, false, false, false, false, false, false, false, false]) (d := some 44) rfl (by kernel_rfl) (by kernel_rfl) (by kernel_rfl) (by kernel_rfl) (fun _ _ _ h => h) HF.out rfl ?_ rfl rfl ?_ ?_
            rotate_left
            · intro w' hF; have f10 := hF.2.cell0; have f11 := hF.2.cell1; clear hF; go_simp; try rfl
            rotate_left
            · simp only [Act.put]; exact rfl
            refine Calm.take (i := 5) (v := ?_) (a' := ?_) (l' := #[true, true, false, false, false, true, false, false, false, false, false]) (d := some 48) rfl (by kernel_rfl) (by kernel_rfl) (by kernel_rfl) (by kernel_rfl) (fun _ _ _ h => h) HF.out rfl ?_ rfl rfl ?_ ?_
            rotate_left
            · intro w' hF; clear hF; go_simp; try rfl
            rotate_left
            · simp only [Act.put]; exact rfl
            refine Calm.take (i := 6) (v := ?_) (a' := ?_) (l' := #[true, true, false, false, false, true, true, false, false, false, false]) (d := some 49) rfl (by kernel_rfl) (by kernel_rfl) (by kernel_rfl) (by kernel_rfl) (fun _ _ _ h => h) HF.out rfl ?_ rfl rfl ?_ ?_
            rotate_left
            · intro w' hF; have f10 := hF.2.cell0; have f11 := hF.2.cell1; clear hF; go_simp; try rfl
            rotate_left
            · simp only [Act.put]; exact rfl
            refine Calm.one (i := 2) (l' := #[true, true, true, false, false, true, true, false, false, false, false]) (by kernel_rfl) rfl rfl rfl fun K hK => ?_
            go_simp
            refine (FA.out _).mono ?_
            rintro e u4 ⟨rfl, hb⟩
            have HF' := hide (And.intro (HF.out.1.trans ((hb).mono HF.out.1.size)) (HF.out.2.step (hb)))
            refine hK _ _ (fun _ => HF'.out) ?_
            clear hK K HF hb
            have HF := hide HF'.out
            clear HF'
            refine Calm.take (i := 3) (v := ?_) (a' := ?_) (l' := #[true, true, true, true, false, true, true, false, false, false, false]) (d := some 46) rfl (by kernel_rfl) (by kernel_rfl) (by kernel_rfl) (by kernel_rfl) (fun _ _ _ h => h) HF.out rfl ?_ rfl rfl ?_ ?_
            rotate_left
            · intro w' hF; clear hF; go_simp; try rfl
            rotate_left
            · simp only [Act.put]; exact rfl
            refine Calm.take (i := 4) (v := ?_) (a' := ?_) (l' := #[true, true, true, true, true, true, true, false, false, false, false]) (d := some 47) rfl (by kernel_rfl) (by kernel_rfl) (by kernel_rfl) (by kernel_rfl) (fun _ _ _ h => h) HF.out rfl ?_ rfl rfl ?_ ?_
            rotate_left
            · intro w' hF; clear hF; go_simp; try rfl
            rotate_left
            · simp only [Act.put]; exact rfl
            refine Calm.one (i := 7) (l' := #[true, true, true, true, true, true, true, true, false, false, false]) (by kernel_rfl) rfl rfl rfl fun K hK => ?_
            go_simp
            refine (FB.out _).mono ?_
            rintro e u5 ⟨rfl, hb⟩
            have HF' := hide (And.intro (HF.out.1.trans ((hb).mono HF.out.1.size)) (HF.out.2.step (hb)))
            refine hK _ _ (fun _ => HF'.out) ?_
            clear hK K HF hb
            have HF := hide HF'.out
            clear HF'
            refine Calm.take (i := 8) (v := ?_) (a' := ?_) (l' := #[true, true, true, true, true, true, true, true, true, false, false]) (d := some 51) rfl (by kernel_rfl) (by kernel_rfl) (by kernel_rfl) (by kernel_rfl) (fun _ _ _ h => h) HF.out rfl ?_ rfl rfl ?_ ?_
            rotate_left
            · intro w' hF; clear hF; go_simp; try rfl
            rotate_left
            · simp only [Act.put]; exact rfl
            refine Calm.take (i := 9) (v := ?_) (a' := ?_) (l' := #[true, true, true, true, true, true, true, true, true, true, false]) (d := some 52) rfl (by kernel_rfl) (by kernel_rfl) (by kernel_rfl) (by kernel_rfl) (fun _ _ _ h => h) HF.out rfl ?_ rfl rfl ?_ ?_
            rotate_left
            · intro w' hF; clear hF; go_simp; try rfl
            rotate_left
            · simp only [Act.put]; exact rfl
            refine Calm.take (i := 10) (v := ?_) (a' := ?_) (l' := #[true, true, true, true, true, true, true, true, true, true, true]) (d := some 2) rfl (by kernel_rfl) (by kernel_rfl) (by kernel_rfl) (by kernel_rfl) (fun _ _ _ h => h) HF.out rfl ?_ rfl rfl ?_ ?_
            rotate_left
            · intro w' hF; clear hF; go_simp; try rfl
            rotate_left
            · simp only [Act.put]; exact rfl
            refine Calm.done (by kernel_rfl) ?_
            replace HB := hide HF.out.1
            replace P0 := hide HF.out.2
            clear HF
            try simp only [List.setIfInBounds_toArray, List.set_cons_succ, List.set_cons_zero]
            go_wp2
            go_ret
            exact ⟨rfl, HB.out⟩
        · have e := E3.out
          rw [if_neg (fun h => h3 h.1)] at e
          subst e
          have hP01 := P0.out.cell1
          go_wp2_with fail
          clear hP01 E3 h3
          clear PQ
          clear PR
          clear I1
          clear I2
          refine wp_calm (fun w' => Below w.heap.size w w' ∧ BoxP w' w.heap.size (.int .i64 pa) (.int .i64 pb)) (fun _ => true) 11 #[false, false, false, false, false, false, false, false, false, false, false] (by kernel_rfl) rfl rfl ?_
          have HF := hide (And.intro (HB.out.drew) (P0.out.drew))
          generalize w5.drew = w5d at *
          refine Calm.take (i := 0) (v := ?_) (a' := ?_) (l' := #[true, false, false, false, false, false, false, false, false, false, false]) (d := some 43) rfl (by kernel_rfl) (by kernel_rfl) (by kernel_rfl) (by kernel_rfl) (fun _ _ _ h => h) HF.out rfl ?_ rfl rfl ?_ ?_
          rotate_left
          · intro w' hF; clear hF; go_simp; try rfl
          rotate_left
          · simp only [Act.put]; exact rfl
          refine Calm.take (i := 1) (v := ?_) (a' := ?_) (l' := #[true, true, false, false, false, false, false, false, false, false, false]) (d := some 44) rfl (by kernel_rfl) (by kernel_rfl) (by kernel_rfl) (by kernel_rfl) (fun _ _ _ h => h) HF.out rfl ?_ rfl rfl ?_ ?_
          rotate_left
          · intro w' hF; have f10 := hF.2.cell0; have f11 := hF.2.cell1; clear hF; go_simp; try rfl
          rotate_left
          · simp only [Act.put]; exact rfl
          refine Calm.take (i := 5) (v := ?_) (a' := ?_) (l' := #[true, true, false, false, false, true, false, false, false, false, false]) (d := some 48) rfl (by kernel_rfl) (by kernel_rfl) (by kernel_rfl) (by kernel_rfl) (fun _ _ _ h => h) HF.out rfl ?_ rfl rfl ?_ ?_
          rotate_left
          · intro w' hF; clear hF; go_simp; try rfl
          rotate_left
          · simp only [Act.put]; exact rfl
          refine Calm.take (i := 6) (v := ?_) (a' := ?_) (l' := #[true, true, false, false, false, true, true, false, false, false, false]) (d := some 49) rfl (by kernel_rfl) (by kernel_rfl) (by kernel_rfl) (by kernel_rfl) (fun _ _ _ h => h) HF.out rfl ?_ rfl rfl ?_ ?_
          rotate_left
          · intro w' hF; have f10 := hF.2.cell0; have f11 := hF.2.cell1; clear hF; go_simp; try rfl
          rotate_left
          · simp only [Act.put]; exact rfl
          refine Calm.one (i := 2) (l' := #[true, true, true, false, false, true, true, false, false, false, false]) (by kernel_rfl) rfl rfl rfl fun K hK => ?_
          go_simp
          refine (FA.out _).mono ?_
          rintro e u4 ⟨rfl, hb⟩
          have HF' := hide (And.intro (HF.out.1.trans ((hb).mono HF.out.1.size)) (HF.out.2.step (hb)))
          refine hK _ _ (fun _ => HF'.out) ?_
          clear hK K HF hb
          have HF := hide HF'.out
          clear HF'
          refine Calm.take (i := 3) (v := ?_) (a' := ?_) (l' := #[true, true, true, true, false, true, true, false, false, false, false]) (d := some 46) rfl (by kernel_rfl) (by kernel_rfl) (by kernel_rfl) (by kernel_rfl) (fun _ _ _ h => h) HF.out rfl ?_ rfl rfl ?_ ?_
          rotate_left
          · intro w' hF; clear hF; go_simp; try rfl
          rotate_left
          · simp only [Act.put]; exact rfl
          refine Calm.take (i := 4) (v := ?_) (a' := ?_) (l' := #[true, true, true, true, true, true, true, false, false, false, false]) (d := some 47) rfl (by kernel_rfl) (by kernel_rfl) (by kernel_rfl) (by kernel_rfl) (fun _ _ _ h => h) HF.out rfl ?_ rfl rfl ?_ ?_
          rotate_left
          · intro w' hF; clear hF; go_simp; try rfl
          rotate_left
          · simp only [Act.put]; exact rfl
          refine Calm.one (i := 7) (l' := #[true, true, true, true, true, true, true, true, false, false, false]) (by kernel_rfl) rfl rfl rfl fun K hK => ?_
          go_simp
          refine (FB.out _).mono ?_
          rintro e u5 ⟨rfl, hb⟩
          have HF' := hide (And.intro (HF.out.1.trans ((hb).mono HF.out.1.size)) (HF.out.2.step (hb)))
          refine hK _ _ (fun _ => HF'.out) ?_
          clear hK K HF hb
          have HF := hide HF'.out
          clear HF'
          refine Calm.take (i := 8) (v := ?_) (a' := ?_) (l' := #[true, true, true, true, true, true, true, true, true, false, false]) (d := some 51) rfl (by kernel_rfl) (by kernel_rfl) (by kernel_rfl) (by kernel_rfl) (fun _ _ _ h => h) HF.out rfl ?_ rfl rfl ?_ ?_
          rotate_left
          · intro w' hF; clear hF; go_simp; try rfl
          rotate_left
          · simp only [Act.put]; exact rfl
          refine Calm.take (i := 9) (v := ?_) (a' := ?_) (l' := #[true, true, true, true, true, true, true, true, true, true, false]) (d := some 52) rfl (by kernel_rfl) (by kernel_rfl) (by kernel_rfl) (by kernel_rfl) (fun _ _ _ h => h) HF.out rfl ?_ rfl rfl ?_ ?_
          rotate_left
          · intro w' hF; clear hF; go_simp; try rfl
          rotate_left
          · simp only [Act.put]; exact rfl
          refine Calm.take (i := 10) (v := ?_) (a' := ?_) (l' := #[true, true, true, true, true, true, true, true, true, true, true]) (d := some 2) rfl (by kernel_rfl) (by kernel_rfl) (by kernel_rfl) (by kernel_rfl) (fun _ _ _ h => h) HF.out rfl ?_ rfl rfl ?_ ?_
          rotate_left
          · intro w' hF; clear hF; go_simp; try rfl
          rotate_left
          · simp only [Act.put]; exact rfl
          refine Calm.done (by kernel_rfl) ?_
          replace HB := hide HF.out.1
          replace P0 := hide HF.out.2
          clear HF
          try simp only [List.setIfInBounds_toArray, List.set_cons_succ, List.set_cons_zero]
          go_wp2
          go_ret
          exact ⟨rfl, HB.out⟩
      · have a1 : (pa == 1) = false := by simpa using ha1
        have E2 := E1.out
        rw [if_neg h2] at E2
        have E3 := hide E2
        clear E2 E1 h2
        clear ha1
        go_wp2_with fail
        clear hP00 hP01
        try clear b1
        try clear h1
        try clear a1
        try clear b0
        go_cut [3, 4] from 19 (fun pt0 pt1 wx => ∃ gq sa ma na ka gr sb mb nb kb, pt0 = .pointer (some ⟨gq, 0, none⟩) ∧ w0.heap.size ≤ gq ∧ Box2 wx gq 61 (.bool sa) (.slice ma na ka) ∧ RInt wx (.agg #[.bool sa, .slice ma na ka]) pa ∧ pt1 = .pointer (some ⟨gr, 0, none⟩) ∧ w0.heap.size ≤ gr ∧ Box2 wx gr 61 (.bool sb) (.slice mb nb kb) ∧ RInt wx (.agg #[.bool sb, .slice mb nb kb]) pb ∧ gq ≠ gr ∧ Below w0.heap.size w0 wx)
        case first =>
          refine wp_facts (fun L T wq => Below w0.heap.size w0 wq ∧ T 1 = .pointer (some ⟨w.heap.size, 0, none⟩) ∧ (L 0 = true → T 19 = .pointer (some ⟨w.heap.size, 0, none⟩)) ∧ (L 1 = true → T 20 = .int .i64 pa) ∧ (L 3 = true → T 22 = .pointer (some ⟨w.heap.size, 1, none⟩)) ∧ (L 4 = true → T 23 = .int .i64 pb) ∧ (L 2 = true → RInt wq (T 21) pa) ∧ (L 5 = true → RInt wq (T 24) pb) ∧ (L 6 = true → PS w0.heap.size wq (T 3)) ∧ (L 6 = true → L 8 = false → PB w0.heap.size wq 61 (T 3) [.bool false, .slice none 0 0]) ∧ (L 7 = true → PS w0.heap.size wq (T 4)) ∧ (L 7 = true → L 9 = false → PB w0.heap.size wq 61 (T 4) [.bool false, .slice none 0 0]) ∧ (L 6 = true → L 7 = true → T 3 ≠ T 4) ∧ (L 8 = true → PV w0.heap.size wq 61 (T 3) (T 21)) ∧ (L 9 = true → PV w0.heap.size wq 61 (T 4) (T 24))) 53 [3, 4, 19, 20, 21, 22, 23, 24] [0, 1, 2, 3, 4, 5, 6, 7, 8, 9] (by kernel_rfl) (by kernel_rfl) (by kernel_rfl) (by kernel_rfl) ?_ ?_ ?_
          · exact ⟨(Below.refl w0.heap.size w0).drew, rfl, no_yet, no_yet, no_yet, no_yet, no_yet, no_yet, no_yet, no_yet, no_yet, no_yet, no_yet, no_yet, no_yet⟩
          · intro i hi
            match i, hi with
            | 0, _ =>
              refine StepAt.of (need := []) (later := []) (k := 6) (d := some 19) rfl rfl (by kernel_rfl) (by kernel_rfl) ?_
              intro L T wq ev a he hL hN hM hJ next hnext
              have e1 := (he.tmp 1).trans hJ.2.1
              go_simp
              exact hnext _ _ ⟨hJ.1, hJ.2.1, fun _ => rfl, hJ.2.2.2.1, hJ.2.2.2.2.1, hJ.2.2.2.2.2.1, hJ.2.2.2.2.2.2.1, hJ.2.2.2.2.2.2.2.1, hJ.2.2.2.2.2.2.2.2.1, hJ.2.2.2.2.2.2.2.2.2.1, hJ.2.2.2.2.2.2.2.2.2.2.1, hJ.2.2.2.2.2.2.2.2.2.2.2.1, hJ.2.2.2.2.2.2.2.2.2.2.2.2.1, hJ.2.2.2.2.2.2.2.2.2.2.2.2.2.1, hJ.2.2.2.2.2.2.2.2.2.2.2.2.2.2⟩
            | 1, _ =>
              refine StepAt.of (need := [0]) (later := []) (k := 6) (d := some 20) rfl rfl (by kernel_rfl) (by kernel_rfl) ?_
              intro L T wq ev a he hL hN hM hJ next hnext
              have e19 := (he.tmp 19).trans (hJ.2.2.1 (hN.1))
              have hcl0 := ((P0.out).step hJ.1).cell0
              go_simp
              exact hnext _ _ ⟨hJ.1, hJ.2.1, hJ.2.2.1, fun _ => rfl, hJ.2.2.2.2.1, hJ.2.2.2.2.2.1, hJ.2.2.2.2.2.2.1, hJ.2.2.2.2.2.2.2.1, hJ.2.2.2.2.2.2.2.2.1, hJ.2.2.2.2.2.2.2.2.2.1, hJ.2.2.2.2.2.2.2.2.2.2.1, hJ.2.2.2.2.2.2.2.2.2.2.2.1, hJ.2.2.2.2.2.2.2.2.2.2.2.2.1, hJ.2.2.2.2.2.2.2.2.2.2.2.2.2.1, hJ.2.2.2.2.2.2.2.2.2.2.2.2.2.2⟩
            | 2, _ =>
              refine StepAt.of (need := [1]) (later := [8]) (k := 6) (d := some 21) rfl rfl (by kernel_rfl) (by kernel_rfl) ?_
              intro L T wq ev a he hL hN hM hJ next hnext
              have e20 := (he.tmp 20).trans (hJ.2.2.2.1 (hN.1))
              have ef := he.func
              go_simp
              refine (rof_any pa _ RA.out.1 RA.out.2.1).mono ?_
              rintro e wq' ⟨v, rfl, i, hb⟩
              exact hnext _ _ ⟨hJ.1.trans ((hb).mono hJ.1.size), hJ.2.1, hJ.2.2.1, hJ.2.2.2.1, hJ.2.2.2.2.1, hJ.2.2.2.2.2.1, fun _ => i, fun h => (hJ.2.2.2.2.2.2.2.1 h).below (hb), fun h => (hJ.2.2.2.2.2.2.2.2.1 h).step (hb), fun h h' => (hJ.2.2.2.2.2.2.2.2.2.1 h h').step (hb), fun h => (hJ.2.2.2.2.2.2.2.2.2.2.1 h).step (hb), fun h h' => (hJ.2.2.2.2.2.2.2.2.2.2.2.1 h h').step (hb), hJ.2.2.2.2.2.2.2.2.2.2.2.2.1, fun h => clash (hM.1) h, fun h => (hJ.2.2.2.2.2.2.2.2.2.2.2.2.2.2 h).step (hb)⟩
            | 3, _ =>
              refine StepAt.of (need := []) (later := []) (k := 6) (d := some 22) rfl rfl (by kernel_rfl) (by kernel_rfl) ?_
              intro L T wq ev a he hL hN hM hJ next hnext
              have e1 := (he.tmp 1).trans hJ.2.1
              go_simp
              exact hnext _ _ ⟨hJ.1, hJ.2.1, hJ.2.2.1, hJ.2.2.2.1, fun _ => rfl, hJ.2.2.2.2.2.1, hJ.2.2.2.2.2.2.1, hJ.2.2.2.2.2.2.2.1, hJ.2.2.2.2.2.2.2.2.1, hJ.2.2.2.2.2.2.2.2.2.1, hJ.2.2.2.2.2.2.2.2.2.2.1, hJ.2.2.2.2.2.2.2.2.2.2.2.1, hJ.2.2.2.2.2.2.2.2.2.2.2.2.1, hJ.2.2.2.2.2.2.2.2.2.2.2.2.2.1, hJ.2.2.2.2.2.2.2.2.2.2.2.2.2.2⟩
            | 4, _ =>
              refine StepAt.of (need := [3]) (later := []) (k := 6) (d := some 23) rfl rfl (by kernel_rfl) (by kernel_rfl) ?_
              intro L T wq ev a he hL hN hM hJ next hnext
              have e22 := (he.tmp 22).trans (hJ.2.2.2.2.1 (hN.1))
              have hcl1 := ((P0.out).step hJ.1).cell1
              go_simp
              exact hnext _ _ ⟨hJ.1, hJ.2.1, hJ.2.2.1, hJ.2.2.2.1, hJ.2.2.2.2.1, fun _ => rfl, hJ.2.2.2.2.2.2.1, hJ.2.2.2.2.2.2.2.1, hJ.2.2.2.2.2.2.2.2.1, hJ.2.2.2.2.2.2.2.2.2.1, hJ.2.2.2.2.2.2.2.2.2.2.1, hJ.2.2.2.2.2.2.2.2.2.2.2.1, hJ.2.2.2.2.2.2.2.2.2.2.2.2.1, hJ.2.2.2.2.2.2.2.2.2.2.2.2.2.1, hJ.2.2.2.2.2.2.2.2.2.2.2.2.2.2⟩
            | 5, _ =>
              refine StepAt.of (need := [4]) (later := [9]) (k := 6) (d := some 24) rfl rfl (by kernel_rfl) (by kernel_rfl) ?_
              intro L T wq ev a he hL hN hM hJ next hnext
              have e23 := (he.tmp 23).trans (hJ.2.2.2.2.2.1 (hN.1))
              have ef := he.func
              go_simp
              refine (rof_any pb _ RA.out.2.2.1 RA.out.2.2.2).mono ?_
              rintro e wq' ⟨v, rfl, i, hb⟩
              exact hnext _ _ ⟨hJ.1.trans ((hb).mono hJ.1.size), hJ.2.1, hJ.2.2.1, hJ.2.2.2.1, hJ.2.2.2.2.1, hJ.2.2.2.2.2.1, fun h => (hJ.2.2.2.2.2.2.1 h).below (hb), fun _ => i, fun h => (hJ.2.2.2.2.2.2.2.2.1 h).step (hb), fun h h' => (hJ.2.2.2.2.2.2.2.2.2.1 h h').step (hb), fun h => (hJ.2.2.2.2.2.2.2.2.2.2.1 h).step (hb), fun h h' => (hJ.2.2.2.2.2.2.2.2.2.2.2.1 h h').step (hb), hJ.2.2.2.2.2.2.2.2.2.2.2.2.1, fun h => (hJ.2.2.2.2.2.2.2.2.2.2.2.2.2.1 h).step (hb), fun h => clash (hM.1) h⟩
            | 6, _ =>
              refine StepAt.of (need := []) (later := [8]) (k := 6) (d := some 3) rfl rfl (by kernel_rfl) (by kernel_rfl) ?_
              intro L T wq ev a he hL hN hM hJ next hnext
              go_simp
              have hb := below_alloc wq (.cells #[.bool false, .slice none 0 0] 61)
              exact hnext _ _ ⟨hJ.1.trans ((hb).mono hJ.1.size), hJ.2.1, hJ.2.2.1, hJ.2.2.2.1, hJ.2.2.2.2.1, hJ.2.2.2.2.2.1, fun h => (hJ.2.2.2.2.2.2.1 h).below (hb), fun h => (hJ.2.2.2.2.2.2.2.1 h).below (hb), fun _ => PS.new hJ.1.size _, fun _ _ => PB.new hJ.1.size _ [.bool false, .slice none 0 0], fun h => (hJ.2.2.2.2.2.2.2.2.2.2.1 h).step (hb), fun h h' => (hJ.2.2.2.2.2.2.2.2.2.2.2.1 h h').step (hb), fun _ h => Ne.symm (hJ.2.2.2.2.2.2.2.2.2.2.1 h).ne, fun h => clash (hM.1) h, fun h => (hJ.2.2.2.2.2.2.2.2.2.2.2.2.2.2 h).step (hb)⟩
            | 7, _ =>
              refine StepAt.of (need := []) (later := [9]) (k := 6) (d := some 4) rfl rfl (by kernel_rfl) (by kernel_rfl) ?_
              intro L T wq ev a he hL hN hM hJ next hnext
              go_simp
              have hb := below_alloc wq (.cells #[.bool false, .slice none 0 0] 61)
              exact hnext _ _ ⟨hJ.1.trans ((hb).mono hJ.1.size), hJ.2.1, hJ.2.2.1, hJ.2.2.2.1, hJ.2.2.2.2.1, hJ.2.2.2.2.2.1, fun h => (hJ.2.2.2.2.2.2.1 h).below (hb), fun h => (hJ.2.2.2.2.2.2.2.1 h).below (hb), fun h => (hJ.2.2.2.2.2.2.2.2.1 h).step (hb), fun h h' => (hJ.2.2.2.2.2.2.2.2.2.1 h h').step (hb), fun _ => PS.new hJ.1.size _, fun _ _ => PB.new hJ.1.size _ [.bool false, .slice none 0 0], fun h _ => (hJ.2.2.2.2.2.2.2.2.1 h).ne, fun h => (hJ.2.2.2.2.2.2.2.2.2.2.2.2.2.1 h).step (hb), fun h => clash (hM.1) h⟩
            | 8, _ =>
              refine StepAt.of (need := [6, 2, 7]) (later := []) (k := 6) (d := none) rfl rfl (by kernel_rfl) (by kernel_rfl) ?_
              intro L T wq ev a he hL hN hM hJ next hnext
              obtain ⟨g, hg, hge, hbx⟩ := hJ.2.2.2.2.2.2.2.2.2.1 (hN.1) hL
              obtain ⟨sv, mv, nv, cv, hv, iv⟩ := (hJ.2.2.2.2.2.2.1 (hN.2.1)).cells
              have e3 := (he.tmp 3).trans hg
              have e21 := (he.tmp 21).trans hv
              have hc0 := hbx.cell 0 rfl
              have hf0 := hbx.free 0
              have hc1 := hbx.cell 1 rfl
              have hf1 := hbx.free 1
              have hk := keeps_all hbx (by intro c hc z e; subst e; simp at hc) [.bool sv, .slice mv nv cv] rfl
              go_simp
              exact hnext undef _ ⟨below_all hge [.bool sv, .slice mv nv cv] 0 _ hJ.1, hJ.2.1, hJ.2.2.1, hJ.2.2.2.1, hJ.2.2.2.2.1, hJ.2.2.2.2.2.1, fun h => (hJ.2.2.2.2.2.2.1 h).keep hk, fun h => (hJ.2.2.2.2.2.2.2.1 h).keep hk, fun h => (hJ.2.2.2.2.2.2.2.2.1 h).put [.bool sv, .slice mv nv cv], fun _ h => no_more h, fun h => (hJ.2.2.2.2.2.2.2.2.2.2.1 h).put [.bool sv, .slice mv nv cv], fun h h' => (hJ.2.2.2.2.2.2.2.2.2.2.2.1 h h').put hg (hJ.2.2.2.2.2.2.2.2.2.2.2.2.1 (hN.1) (hN.2.2.1)) [.bool sv, .slice mv nv cv], hJ.2.2.2.2.2.2.2.2.2.2.2.2.1, fun _ => PV.set' [.bool sv, .slice mv nv cv] hg hv hbx hge rfl, fun h => (hJ.2.2.2.2.2.2.2.2.2.2.2.2.2.2 h).put hg (hJ.2.2.2.2.2.2.2.2.2.2.2.2.1 (hN.1) (hN.2.2.1)) [.bool sv, .slice mv nv cv]⟩
            | 9, _ =>
              refine StepAt.of (need := [7, 5, 6]) (later := []) (k := 6) (d := none) rfl rfl (by kernel_rfl) (by kernel_rfl) ?_
              intro L T wq ev a he hL hN hM hJ next hnext
              obtain ⟨g, hg, hge, hbx⟩ := hJ.2.2.2.2.2.2.2.2.2.2.2.1 (hN.1) hL
              obtain ⟨sv, mv, nv, cv, hv, iv⟩ := (hJ.2.2.2.2.2.2.2.1 (hN.2.1)).cells
              have e4 := (he.tmp 4).trans hg
              have e24 := (he.tmp 24).trans hv
              have hc0 := hbx.cell 0 rfl
              have hf0 := hbx.free 0
              have hc1 := hbx.cell 1 rfl
              have hf1 := hbx.free 1
              have hk := keeps_all hbx (by intro c hc z e; subst e; simp at hc) [.bool sv, .slice mv nv cv] rfl
              go_simp
              exact hnext undef _ ⟨below_all hge [.bool sv, .slice mv nv cv] 0 _ hJ.1, hJ.2.1, hJ.2.2.1, hJ.2.2.2.1, hJ.2.2.2.2.1, hJ.2.2.2.2.2.1, fun h => (hJ.2.2.2.2.2.2.1 h).keep hk, fun h => (hJ.2.2.2.2.2.2.2.1 h).keep hk, fun h => (hJ.2.2.2.2.2.2.2.2.1 h).put [.bool sv, .slice mv nv cv], fun h h' => (hJ.2.2.2.2.2.2.2.2.2.1 h h').put hg (Ne.symm (hJ.2.2.2.2.2.2.2.2.2.2.2.2.1 (hN.2.2.1) (hN.1))) [.bool sv, .slice mv nv cv], fun h => (hJ.2.2.2.2.2.2.2.2.2.2.1 h).put [.bool sv, .slice mv nv cv], fun _ h => no_more h, hJ.2.2.2.2.2.2.2.2.2.2.2.2.1, fun h => (hJ.2.2.2.2.2.2.2.2.2.2.2.2.2.1 h).put hg (Ne.symm (hJ.2.2.2.2.2.2.2.2.2.2.2.2.1 (hN.2.2.1) (hN.1))) [.bool sv, .slice mv nv cv], fun _ => PV.set' [.bool sv, .slice mv nv cv] hg hv hbx hge rfl⟩
            | k + 10, hi => exact absurd hi (Nat.not_lt.2 (Nat.le_add_left 10 k))
          · intro L a wq hA hJ hs hd hf
            obtain ⟨gq, cs0, hp0, hge0, hv0, hb0⟩ := hJ.2.2.2.2.2.2.2.2.2.2.2.2.2.1 (hA.2.2.2.2.2.2.2.2.1)
            have i0 := hJ.2.2.2.2.2.2.1 (hA.2.2.1)
            obtain ⟨sa, ma, na, ka, hq0, i0⟩ := i0.cells
            rw [hq0, Value.agg.injEq] at hv0
            have hl0 : cs0 = _ := congrArg Array.toList hv0.symm
            subst hl0
            obtain ⟨gr, cs1, hp1, hge1, hv1, hb1⟩ := hJ.2.2.2.2.2.2.2.2.2.2.2.2.2.2 (hA.2.2.2.2.2.2.2.2.2.1)
            have i1 := hJ.2.2.2.2.2.2.2.1 (hA.2.2.2.2.2.1)
            obtain ⟨sb, mb, nb, kb, hq1, i1⟩ := i1.cells
            rw [hq1, Value.agg.injEq] at hv1
            have hl1 : cs1 = _ := congrArg Array.toList hv1.symm
            subst hl1
            have hne0_1 : gq ≠ gr := fun e => hJ.2.2.2.2.2.2.2.2.2.2.2.2.1 (hA.2.2.2.2.2.2.1) (hA.2.2.2.2.2.2.2.1) (hp0.trans (e ▸ hp1.symm))
            refine (by assumption : ∀ a' w', Met _ a' w' → _) _ _ (Met.intro ((by assumption : ∀ a' w', _ → _) _ _ ?_))
            exact ⟨a.tmps.getD 3 undef, a.tmps.getD 4 undef, a.tmps.getD 19 undef, a.tmps.getD 20 undef, a.tmps.getD 21 undef, a.tmps.getD 22 undef, a.tmps.getD 23 undef, a.tmps.getD 24 undef, a.tmps.getD 25 undef, a.tmps.getD 26 undef, a.tmps.getD 27 undef, a.tmps.getD 28 undef, a.tmps.getD 29 undef, a.tmps.getD 30 undef, a.tmps.getD 31 undef, a.tmps.getD 32 undef, a.tmps.getD 33 undef, a.tmps.getD 34 undef, a.tmps.getD 35 undef, a.tmps.getD 36 undef, a.tmps.getD 37 undef, a.tmps.getD 38 undef, a.tmps.getD 39 undef, a.tmps.getD 40 undef, a.tmps.getD 41 undef, a.tmps.getD 42 undef, a.tmps.getD 43 undef, a.tmps.getD 44 undef, a.tmps.getD 45 undef, a.tmps.getD 46 undef, a.tmps.getD 47 undef, a.tmps.getD 48 undef, a.tmps.getD 49 undef, a.tmps.getD 50 undef, a.tmps.getD 51 undef, a.tmps.getD 52 undef, ⟨gq, sa, ma, na, ka, gr, sb, mb, nb, kb, hp0, hge0, hb0, i0, hp1, hge1, hb1, i1, hne0_1, hJ.1⟩, act_eq _ _ [3, 4, 19, 20, 21, 22, 23, 24, 25, 26, 27, 28, 29, 30, 31, 32, 33, 34, 35, 36, 37, 38, 39, 40, 41, 42, 43, 44, 45, 46, 47, 48, 49, 50, 51, 52] hf (by kernel_rfl) (hs.trans (by kernel_rfl)) hd (by kernel_rfl)⟩
        case rest =>
        obtain ⟨gq, sa, ma, na, ka, gr, sb, mb, nb, kb, rfl, hge0, hbx0, hi0, rfl, hge1, hbx1, hi1, hne0_1, hb⟩ := hcut
        replace HB := hide (HB.out.trans (hb.mono HB.out.size))
        replace P0 := hide (P0.out.step hb)
        have PQ := hide hbx0
        have PR := hide hbx1
        have I1 := hide hi0
        have I2 := hide hi1
        clear hge0 hge1 hbx0 hbx1 hi0 hi1 hne0_1 hb
        generalize hwc : wc = w5 at *
        clear hwc
        by_cases h3 : 1 < pb
        · have hP01 := P0.out.cell1
          have q0 := PQ.out.cell0
          have q1 := PQ.out.cell1
          have r0 := PR.out.cell0
          have r1 := PR.out.cell1
          go_wp2_with fail
          clear q0 q1 r0 r1 hP01
          refine (rgcd_any _ _ pa pb _ I1.out I2.out (by have := dlen64 RA.out.1 RA.out.2.1; omega) (by have := dlen64 RA.out.2.2.1 RA.out.2.2.2; omega)).mono ?_
          rintro e u1 ⟨v, rfl, n, hb⟩
          replace P0 := hide (P0.out.step (hb))
          replace HB := hide (HB.out.trans ((hb).mono HB.out.size))
          replace PQ := hide (PQ.out.step (hb))
          replace PR := hide (PR.out.step (hb))
          replace I1 := hide (I1.out.below (hb))
          replace I2 := hide (I2.out.below (hb))
          have I3 := hide (n)
          clear hb n
          clear PQ
          clear PR
          clear I1
          clear I2
          go_wp2_with fail
          refine (rof_any 1 _ (by decide) (by decide)).mono ?_
          rintro e u2 ⟨v', rfl, n, hb⟩
          replace P0 := hide (P0.out.step (hb))
          replace HB := hide (HB.out.trans ((hb).mono HB.out.size))
          replace I3 := hide (I3.out.below (hb))
          have I4 := hide (n)
          clear hb n
          go_wp2_with fail
          refine (rsameP_any _ _ _ _ _ I3.out I4.out).mono ?_
          rintro e u3 ⟨rfl, hb⟩
          replace P0 := hide (P0.out.step (hb))
          replace HB := hide (HB.out.trans ((hb).mono HB.out.size))
          replace I3 := hide (I3.out.below (hb))
          replace I4 := hide (I4.out.below (hb))
          clear hb
          clear I3
          clear I4
          have hgg : decide ((Int.gcd pa pb : Int) = 1) = decide (gI pa pb = 1) := rfl
          rw [hgg]
          clear hgg
          by_cases h4 : gI pa pb = 1
          · have e := E3.out
            rw [if_pos ⟨h3, h4⟩] at e
            rw [decide_eq_true h4]
            subst e
            clear h3 h4 E3
            go_wp2_with fail
            refine wp_calm (fun w' => Below w.heap.size w w' ∧ BoxP w' w.heap.size (.int .i64 pa) (.int .i64 pb)) (fun _ => true) 9 #[false, false, false, false, false, false, false, false, false] (by kernel_rfl) rfl rfl ?_
            have HF := hide (And.intro (HB.out.drew) (P0.out.drew))
            generalize u3.drew = u3d at *
            refine Calm.take (i := 0) (v := ?_) (a' := ?_) (l' := #[true, false, false, false, false, false, false, false, false]) (d := some 35) rfl (by kernel_rfl) (by kernel_rfl) (by kernel_rfl) (by kernel_rfl) (fun _ _ _ h => h) HF.out rfl ?_ rfl rfl ?_ ?_
            rotate_left
            · intro w' hF; clear hF; go_simp; try rfl
            rotate_left
            · simp only [Act.put]; exact rfl
            refine Calm.take (i := 1) (v := ?_) (a' := ?_) (l' := #[true, true, false, false, false, false, false, false, false]) (d := some 36) rfl (by kernel_rfl) (by kernel_rfl) (by kernel_rfl) (by kernel_rfl) (fun _ _ _ h => h) HF.out rfl ?_ rfl rfl ?_ ?_
            rotate_left
            · intro w' hF; have f10 := hF.2.cell0; have f11 := hF.2.cell1; clear hF; go_simp; try rfl
            rotate_left
            · simp only [Act.put]; exact rfl
            refine Calm.take (i := 4) (v := ?_) (a' := ?_) (l' := #[true, true, false, false, true, false, false, false, false]) (d := some 39) rfl (by kernel_rfl) (by kernel_rfl) (by kernel_rfl) (by kernel_rfl) (fun _ _ _ h => h) HF.out rfl ?_ rfl rfl ?_ ?_
            rotate_left
            · intro w' hF; clear hF; go_simp; try rfl
            rotate_left
            · simp only [Act.put]; exact rfl
            refine Calm.take (i := 5) (v := ?_) (a' := ?_) (l' := #[true, true, false, false, true, true, false, false, false]) (d := some 40) rfl (by kernel_rfl) (by kernel_rfl) (by kernel_rfl) (by kernel_rfl) (fun _ _ _ h => h) HF.out rfl ?_ rfl rfl ?_ ?_
            rotate_left
            · intro w' hF; have f10 := hF.2.cell0; have f11 := hF.2.cell1; clear hF; go_simp; try rfl
            rotate_left
            · simp only [Act.put]; exact rfl
            refine Calm.one (i := 2) (l' := #[true, true, true, false, true, true, false, false, false]) (by kernel_rfl) rfl rfl rfl fun K hK => ?_
            go_simp
            refine (FA.out _).mono ?_
            rintro e u4 ⟨rfl, hb⟩
            have HF' := hide (And.intro (HF.out.1.trans ((hb).mono HF.out.1.size)) (HF.out.2.step (hb)))
            refine hK _ _ (fun _ => HF'.out) ?_
            clear hK K HF hb
            have HF := hide HF'.out
            clear HF'
            refine Calm.take (i := 3) (v := ?_) (a' := ?_) (l' := #[true, true, true, true, true, true, false, false, false]) (d := some 38) rfl (by kernel_rfl) (by kernel_rfl) (by kernel_rfl) (by kernel_rfl) (fun _ _ _ h => h) HF.out rfl ?_ rfl rfl ?_ ?_
            rotate_left
            · intro w' hF; clear hF; go_simp; try rfl
            rotate_left
            · simp only [Act.put]; exact rfl
            refine Calm.one (i := 6) (l' := #[true, true, true, true, true, true, true, false, false]) (by kernel_rfl) rfl rfl rfl fun K hK => ?_
            go_simp
            refine (FB.out _).mono ?_
            rintro e u5 ⟨rfl, hb⟩
            have HF' := hide (And.intro (HF.out.1.trans ((hb).mono HF.out.1.size)) (HF.out.2.step (hb)))
            refine hK _ _ (fun _ => HF'.out) ?_
            clear hK K HF hb
            have HF := hide HF'.out
            clear HF'
            refine Calm.take (i := 7) (v := ?_) (a' := ?_) (l' := #[true, true, true, true, true, true, true, true, false]) (d := some 42) rfl (by kernel_rfl) (by kernel_rfl) (by kernel_rfl) (by kernel_rfl) (fun _ _ _ h => h) HF.out rfl ?_ rfl rfl ?_ ?_
            rotate_left
            · intro w' hF; clear hF; go_simp; try rfl
            rotate_left
            · simp only [Act.put]; exact rfl
            refine Calm.take (i := 8) (v := ?_) (a' := ?_) (l' := #[true, true, true, true, true, true, true, true, true]) (d := some 2) rfl (by kernel_rfl) (by kernel_rfl) (by kernel_rfl) (by kernel_rfl) (fun _ _ _ h => h) HF.out rfl ?_ rfl rfl ?_ ?_
            rotate_left
            · intro w' hF; clear hF; go_simp; try rfl
            rotate_left
            · simp only [Act.put]; exact rfl
            refine Calm.done (by kernel_rfl) ?_
            replace HB := hide HF.out.1
            replace P0 := hide HF.out.2
            clear HF
            try simp only [List.setIfInBounds_toArray, List.set_cons_succ, List.set_cons_zero]
            go_wp2
            go_ret
            exact ⟨rfl, HB.out⟩
          · have e := E3.out
            rw [if_neg (fun h => h4 h.2)] at e
            rw [decide_eq_false h4]
            subst e
            clear h3 h4 E3
            go_wp2_with fail
            refine wp_calm (fun w' => Below w.heap.size w w' ∧ BoxP w' w.heap.size (.int .i64 pa) (.int .i64 pb)) (fun _ => true) 11 #[false, false, false, false, false, false, false, false, false, false, false] (by kernel_rfl) rfl rfl ?_
            have HF := hide (And.intro (HB.out.drew) (P0.out.drew))
            generalize u3.drew = u3d at *
            refine Calm.take (i := 0) (v := ?_) (a' := ?_) (l' := #[true, false, false, false, false, false, false, false, false, false, false]) (d := some 43) rfl (by kernel_rfl) (by kernel_rfl) (by kernel_rfl) (by kernel_rfl) (fun _ _ _ h => h) HF.out rfl ?_ rfl rfl ?_ ?_
            rotate_left
            · intro w' hF; clear hF; go_simp; try rfl
            rotate_left
            · simp only [Act.put]; exact rfl
            refine Calm.take (i := 1) (v := ?_) (a' := ?_) (l' := #[true, true, false, false, false, false, false, false, false, false, false]) (d := some 44) rfl (by kernel_rfl) (by kernel_rfl) (by kernel_rfl) (by kernel_rfl) (fun _ _ _ h => h) HF.out rfl ?_ rfl rfl ?_ ?_
            rotate_left
            · intro w' hF; have f10 := hF.2.cell0; have f11 := hF.2.cell1; clear hF; go_simp; try rfl
            rotate_left
            · simp only [Act.put]; exact rfl
            refine Calm.take (i := 5) (v := ?_) (a' := ?_) (l' := #[true, true, false, false, false, true, false, false, false, false, false]) (d := some 48) rfl (by kernel_rfl) (by kernel_rfl) (by kernel_rfl) (by kernel_rfl) (fun _ _ _ h => h) HF.out rfl ?_ rfl rfl ?_ ?_
            rotate_left
            · intro w' hF; clear hF; go_simp; try rfl
            rotate_left
            · simp only [Act.put]; exact rfl
            refine Calm.take (i := 6) (v := ?_) (a' := ?_) (l' := #[true, true, false, false, false, true, true, false, false, false, false]) (d := some 49) rfl (by kernel_rfl) (by kernel_rfl) (by kernel_rfl) (by kernel_rfl) (fun _ _ _ h => h) HF.out rfl ?_ rfl rfl ?_ ?_
            rotate_left
            · intro w' hF; have f10 := hF.2.cell0; have f11 := hF.2.cell1; clear hF; go_simp; try rfl
            rotate_left
            · simp only [Act.put]; exact rfl
            refine Calm.one (i := 2) (l' := #[true, true, true, false, false, true, true, false, false, false, false]) (by kernel_rfl) rfl rfl rfl fun K hK => ?_
            go_simp
            refine (FA.out _).mono ?_
            rintro e u4 ⟨rfl, hb⟩
            have HF' := hide (And.intro (HF.out.1.trans ((hb).mono HF.out.1.size)) (HF.out.2.step (hb)))
            refine hK _ _ (fun _ => HF'.out) ?_
            clear hK K HF hb
            have HF := hide HF'.out
            clear HF'
            refine Calm.take (i := 3) (v := ?_) (a' := ?_) (l' := #[true, true, true, true, false, true, true, false, false, false, false]) (d := some 46) rfl (by kernel_rfl) (by kernel_rfl) (by kernel_rfl) (by kernel_rfl) (fun _ _ _ h => h) HF.out rfl ?_ rfl rfl ?_ ?_
            rotate_left
            · intro w' hF; clear hF; go_simp; try rfl
            rotate_left
            · simp only [Act.put]; exact rfl
            refine Calm.take (i := 4) (v := ?_) (a' := ?_) (l' := #[true, true, true, true, true, true, true, false, false, false, false]) (d := some 47) rfl (by kernel_rfl) (by kernel_rfl) (by kernel_rfl) (by kernel_rfl) (fun _ _ _ h => h) HF.out rfl ?_ rfl rfl ?_ ?_
            rotate_left
            · intro w' hF; clear hF; go_simp; try rfl
            rotate_left
            · simp only [Act.put]; exact rfl
            refine Calm.one (i := 7) (l' := #[true, true, true, true, true, true, true, true, false, false, false]) (by kernel_rfl) rfl rfl rfl fun K hK => ?_
            go_simp
            refine (FB.out _).mono ?_
            rintro e u5 ⟨rfl, hb⟩
            have HF' := hide (And.intro (HF.out.1.trans ((hb).mono HF.out.1.size)) (HF.out.2.step (hb)))
            refine hK _ _ (fun _ => HF'.out) ?_
            clear hK K HF hb
            have HF := hide HF'.out
            clear HF'
            refine Calm.take (i := 8) (v := ?_) (a' := ?_) (l' := #[true, true, true, true, true, true, true, true, true, false, false]) (d := some 51) rfl (by kernel_rfl) (by kernel_rfl) (by kernel_rfl) (by kernel_rfl) (fun _ _ _ h => h) HF.out rfl ?_ rfl rfl ?_ ?_
            rotate_left
            · intro w' hF; clear hF; go_simp; try rfl
            rotate_left
            · simp only [Act.put]; exact rfl
            refine Calm.take (i := 9) (v := ?_) (a' := ?_) (l' := #[true, true, true, true, true, true, true, true, true, true, false]) (d := some 52) rfl (by kernel_rfl) (by kernel_rfl) (by kernel_rfl) (by kernel_rfl) (fun _ _ _ h => h) HF.out rfl ?_ rfl rfl ?_ ?_
            rotate_left
            · intro w' hF; clear hF; go_simp; try rfl
            rotate_left
            · simp only [Act.put]; exact rfl
            refine Calm.take (i := 10) (v := ?_) (a' := ?_) (l' := #[true, true, true, true, true, true, true, true, true, true, true]) (d := some 2) rfl (by kernel_rfl) (by kernel_rfl) (by kernel_rfl) (by kernel_rfl) (fun _ _ _ h => h) HF.out rfl ?_ rfl rfl ?_ ?_
            rotate_left
            · intro w' hF; clear hF; go_simp; try rfl
            rotate_left
            · simp only [Act.put]; exact rfl
            refine Calm.done (by kernel_rfl) ?_
            replace HB := hide HF.out.1
            replace P0 := hide HF.out.2
            clear HF
            try simp only [List.setIfInBounds_toArray, List.set_cons_succ, List.set_cons_zero]
            go_wp2
            go_ret
            exact ⟨rfl, HB.out⟩
        · have e := E3.out
          rw [if_neg (fun h => h3 h.1)] at e
          subst e
          have hP01 := P0.out.cell1
          go_wp2_with fail
          clear hP01 E3 h3
          clear PQ
          clear PR
          clear I1
          clear I2
          refine wp_calm (fun w' => Below w.heap.size w w' ∧ BoxP w' w.heap.size (.int .i64 pa) (.int .i64 pb)) (fun _ => true) 11 #[false, false, false, false, false, false, false, false, false, false, false] (by kernel_rfl) rfl rfl ?_
          have HF := hide (And.intro (HB.out.drew) (P0.out.drew))
          generalize w5.drew = w5d at *
          refine Calm.take (i := 0) (v := ?_) (a' := ?_) (l' := #[true, false, false, false, false, false, false, false, false, false, false]) (d := some 43) rfl (by kernel_rfl) (by kernel_rfl) (by kernel_rfl) (by kernel_rfl) (fun _ _ _ h => h) HF.out rfl ?_ rfl rfl ?_ ?_
          rotate_left
          · intro w' hF; clear hF; go_simp; try rfl
          rotate_left
          · simp only [Act.put]; exact rfl
          refine Calm.take (i := 1) (v := ?_) (a' := ?_) (l' := #[true, true, false, false, false, false, false, false, false, false, false]) (d := some 44) rfl (by kernel_rfl) (by kernel_rfl) (by kernel_rfl) (by kernel_rfl) (fun _ _ _ h => h) HF.out rfl ?_ rfl rfl ?_ ?_
          rotate_left
          · intro w' hF; have f10 := hF.2.cell0; have f11 := hF.2.cell1; clear hF; go_simp; try rfl
          rotate_left
          · simp only [Act.put]; exact rfl
          refine Calm.take (i := 5) (v := ?_) (a' := ?_) (l' := #[true, true, false, false, false, true, false, false, false, false, false]) (d := some 48) rfl (by kernel_rfl) (by kernel_rfl) (by kernel_rfl) (by kernel_rfl) (fun _ _ _ h => h) HF.out rfl ?_ rfl rfl ?_ ?_
          rotate_left
          · intro w' hF; clear hF; go_simp; try rfl
          rotate_left
          · simp only [Act.put]; exact rfl
          refine Calm.take (i := 6) (v := ?_) (a' := ?_) (l' := #[true, true, false, false, false, true, true, false, false, false, false]) (d := some 49) rfl (by kernel_rfl) (by kernel_rfl) (by kernel_rfl) (by kernel_rfl) (fun _ _ _ h => h) HF.out rfl ?_ rfl rfl ?_ ?_
          rotate_left
          · intro w' hF; have f10 := hF.2.cell0; have f11 := hF.2.cell1; clear hF; go_simp; try rfl
          rotate_left
          · simp only [Act.put]; exact rfl
          refine Calm.one (i := 2) (l' := #[true, true, true, false, false, true, true, false, false, false, false]) (by kernel_rfl) rfl rfl rfl fun K hK => ?_
          go_simp
          refine (FA.out _).mono ?_
          rintro e u4 ⟨rfl, hb⟩
          have HF' := hide (And.intro (HF.out.1.trans ((hb).mono HF.out.1.size)) (HF.out.2.step (hb)))
          refine hK _ _ (fun _ => HF'.out) ?_
          clear hK K HF hb
          have HF := hide HF'.out
          clear HF'
          refine Calm.take (i := 3) (v := ?_) (a' := ?_) (l' := #[true, true, true, true, false, true, true, false, false, false, false]) (d := some 46) rfl (by kernel_rfl) (by kernel_rfl) (by kernel_rfl) (by kernel_rfl) (fun _ _ _ h => h) HF.out rfl ?_ rfl rfl ?_ ?_
          rotate_left
          · intro w' hF; clear hF; go_simp; try rfl
          rotate_left
          · simp only [Act.put]; exact rfl
          refine Calm.take (i := 4) (v := ?_) (a' := ?_) (l' := #[true, true, true, true, true, true, true, false, false, false, false]) (d := some 47) rfl (by kernel_rfl) (by kernel_rfl) (by kernel_rfl) (by kernel_rfl) (fun _ _ _ h => h) HF.out rfl ?_ rfl rfl ?_ ?_
          rotate_left
          · intro w' hF; clear hF; go_simp; try rfl
          rotate_left
          · simp only [Act.put]; exact rfl
          refine Calm.one (i := 7) (l' := #[true, true, true, true, true, true, true, true, false, false, false]) (by kernel_rfl) rfl rfl rfl fun K hK => ?_
          go_simp
          refine (FB.out _).mono ?_
          rintro e u5 ⟨rfl, hb⟩
          have HF' := hide (And.intro (HF.out.1.trans ((hb).mono HF.out.1.size)) (HF.out.2.step (hb)))
          refine hK _ _ (fun _ => HF'.out) ?_
          clear hK K HF hb
          have HF := hide HF'.out
          clear HF'
          refine Calm.take (i := 8) (v := ?_) (a' := ?_) (l' := #[true, true, true, true, true, true, true, true, true, false, false]) (d := some 51) rfl (by kernel_rfl) (by kernel_rfl) (by kernel_rfl) (by kernel_rfl) (fun _ _ _ h => h) HF.out rfl ?_ rfl rfl ?_ ?_
          rotate_left
          · intro w' hF; clear hF; go_simp; try rfl
          rotate_left
          · simp only [Act.put]; exact rfl
          refine Calm.take (i := 9) (v := ?_) (a' := ?_) (l' := #[true, true, true, true, true, true, true, true, true, true, false]) (d := some 52) rfl (by kernel_rfl) (by kernel_rfl) (by kernel_rfl) (by kernel_rfl) (fun _ _ _ h => h) HF.out rfl ?_ rfl rfl ?_ ?_
          rotate_left
          · intro w' hF; clear hF; go_simp; try rfl
          rotate_left
          · simp only [Act.put]; exact rfl
          refine Calm.take (i := 10) (v := ?_) (a' := ?_) (l' := #[true, true, true, true, true, true, true, true, true, true, true]) (d := some 2) rfl (by kernel_rfl) (by kernel_rfl) (by kernel_rfl) (by kernel_rfl) (fun _ _ _ h => h) HF.out rfl ?_ rfl rfl ?_ ?_
          rotate_left
          · intro w' hF; clear hF; go_simp; try rfl
          rotate_left
          · simp only [Act.put]; exact rfl
          refine Calm.done (by kernel_rfl) ?_
          replace HB := hide HF.out.1
          replace P0 := hide HF.out.2
          clear HF
          try simp only [List.setIfInBounds_toArray, List.set_cons_succ, List.set_cons_zero]
          go_wp2
          go_ret
          exact ⟨rfl, HB.out⟩
end Go.Proofs.YtenmogmdijnlhaaDoor
